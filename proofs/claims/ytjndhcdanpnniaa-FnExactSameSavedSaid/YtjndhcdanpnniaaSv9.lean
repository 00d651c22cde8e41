/- What is saved: a name, rules and incomes; among the arguments. -/
import Derived.Test.YtjndhcdanpnniaaRu
import Derived.ChangeArms
import Derived.ChangeMaps5
namespace Go
open Go.RowKit
structure SV where
  s : ByteArray
  n : Nat
  V : Nat → RV
  m : Nat
  x : Nat → Int
structure SP where
  A : Option Addr
  c : Nat
  B : Option Addr
  d : Nat
def SV.ok (r : SV) : Prop := r.s.size ≤ maxLen ∧ r.n ≤ maxLen ∧ (∀ i, i < r.n → (r.V i).ok) ∧ r.m ≤ maxLen
def svCell (S : Nat → SV) (P : Nat → SP) (j : Nat) : Value := if j % 3 = 0 then .string (S (j / 3)).s else if j % 3 = 1 then .slice (P (j / 3)).A (S (j / 3)).n (P (j / 3)).c else .slice (P (j / 3)).B (S (j / 3)).m (P (j / 3)).d
theorem svCell_0 {S : Nat → SV} {P : Nat → SP} (i : Nat) : svCell S P (i * 3) = .string (S i).s := by
  unfold svCell; rw [if_pos (by omega), show i * 3 / 3 = i by omega]
theorem svCell_1 {S : Nat → SV} {P : Nat → SP} (i : Nat) : svCell S P (i * 3 + 1) = .slice (P i).A (S i).n (P i).c := by
  unfold svCell; rw [if_neg (by omega), if_pos (by omega), show (i * 3 + 1) / 3 = i by omega]
theorem svCell_2 {S : Nat → SV} {P : Nat → SP} (i : Nat) : svCell S P (i * 3 + 2) = .slice (P i).B (S i).m (P i).d := by
  unfold svCell; rw [if_neg (by omega), if_neg (by omega), show (i * 3 + 2) / 3 = i by omega]
/-- the slice A of n that are saved holds S -/
def SS (w : World) (A : Option Addr) (n : Nat) (S : Nat → SV) : Prop :=
  ∃ P : Nat → SP, SL w A (n * 3) (svCell S P) ∧ ∀ i, i < n → RS w (P i).A (S i).n (S i).V ∧ SL w (P i).B (S i).m (fun j => .int .i64 ((S i).x j))
theorem SS.below {w w' : World} {A : Option Addr} {n : Nat} {S : Nat → SV} (h : SS w A n S) (hb : Below w.heap.size w w') : SS w' A n S := by
  obtain ⟨P, h1, h2⟩ := h
  exact ⟨P, h1.below hb, fun i hi => ⟨(h2 i hi).1.below hb, (h2 i hi).2.below hb⟩⟩
theorem SS.drewN {w : World} {A : Option Addr} {n : Nat} {S : Nat → SV} (h : SS w A n S) (k : Nat) : SS (w.drewN k) A n S := h
theorem SS.cells {w : World} {A : Option Addr} {n : Nat} {S : Nat → SV} (h : SS w A n S) : Hid (∀ k, k < n → ∃ b off I c J d, A = some ⟨b, off, none⟩ ∧ b < w.heap.size ∧ w.cell? ⟨b, off + k * 3, none⟩ = some (.string (S k).s) ∧ w.cell? ⟨b, off + k * 3 + 1, none⟩ = some (.slice I (S k).n c) ∧
    w.cell? ⟨b, off + k * 3 + 2, none⟩ = some (.slice J (S k).m d) ∧ RS w I (S k).n (S k).V ∧ SL w J (S k).m (fun j => .int .i64 ((S k).x j))) := by
  intro k hk
  obtain ⟨P, h1, h2⟩ := h
  obtain ⟨b, off, e1, e2, e3⟩ := h1.at_ (by omega)
  refine ⟨b, off, (P k).A, (P k).c, (P k).B, (P k).d, e1, e2, ?_, ?_, ?_, (h2 k hk).1, (h2 k hk).2⟩
  · exact (e3 (k * 3) (by omega)).trans (by rw [svCell_0])
  · exact (e3 (k * 3 + 1) (by omega)).trans (by rw [svCell_1])
  · exact (e3 (k * 3 + 2) (by omega)).trans (by rw [svCell_2])
section
open Go.ChangeShapes Go.WideShapes Go.Deep
variable {H : Type} {enc : TypeId × Value → H} {P : Program} {w : World}
theorem array3s {cs : Array Value} (h : cs.size = 3) : ∃ a b c, cs = #[a, b, c] := by
  obtain ⟨l⟩ := cs
  match l, h with
  | [a, b, c], _ => exact ⟨a, b, c, rfl⟩
/-- a slice's value -/
theorem slice_form {ts ti : TypeId} {u : Value} {y : DataW H × List MemPlace} {fuel : Nat} (hs : P.underlying ts = some (.slice ti)) (t1 : DataW.trod enc P w 0 (fun _ => true) true fuel ts [u] = some y) : (∃ A n c, u = .slice A n c) ∧ DataW.Trod enc P w 0 (fun _ => true) true ts u y.1 y.2 := by
  rcases DataW.trod_slice hs t1 with ⟨hh, _⟩ | ⟨a, len, cap, _, _, _, _, hh, _⟩
  · simp only [List.cons.injEq, and_true] at hh
    subst hh
    exact ⟨⟨_, _, _, rfl⟩, fuel, t1⟩
  · simp only [List.cons.injEq, and_true] at hh
    subst hh
    exact ⟨⟨_, _, _, rfl⟩, fuel, t1⟩
theorem open_saved {r : Reach} {b0 : Nat} {t ts tj te ti : TypeId} {f0 f1 f2 : Field} {v : Value} {d : DataW H} {ps : List MemPlace} (he : P.underlying t = some (.struct #[f0, f1, f2]))
    (hone : oneCellFields P #[f0, f1, f2] = true) (hC : P.cellsOf t = 3) (h0 : P.underlying f0.type = some .string) (h1 : f1.type = ts) (h2 : f2.type = tj)
    (hs : P.underlying ts = some (.slice te)) (hR : ∀ v d ps, DataW.Trod enc P w 0 (fun _ => true) true ts v d ps → (∃ A n c, v = .slice A n c) → ∃ A n c, ∃ V : Nat → RV, v = .slice A n c ∧ n ≤ maxLen ∧ RS w A n V ∧ ∀ i, i < n → (V i).ok)
    (hj : P.underlying tj = some (.slice ti)) (hi : P.underlying ti = some (.int .i64)) (hc : P.cellsOf ti = 1)
    (hv : Value.okWide P w r b0 t v) (hd : DataW.Trod enc P w 0 (fun _ => true) true t v d ps) :
    ∃ (R : SV) (I J : Option Addr) (c e : Nat), v = .agg #[.string R.s, .slice I R.n c, .slice J R.m e] ∧ R.ok ∧ RS w I R.n R.V ∧ SL w J R.m (fun j => .int .i64 (R.x j)) := by
  obtain ⟨cs, rfl, hsz⟩ := okWide_struct he hv
  obtain ⟨a0, a1, a2, rfl⟩ := array3s (hsz.trans hC)
  obtain ⟨fuel, hf⟩ := hd
  obtain ⟨ys, n'', hn', hy, hlen, hyl, hg⟩ := DataW.trod_struct he hf
  have field : ∀ (q : Nat) (f : Field) (u : Value), (#[f0, f1, f2] : Array Field)[q]? = some f → q < 3 → [a0, a1, a2][q]? = some u → ∃ y, DataW.trod enc P w 0 (fun _ => true) true n'' f.type [u] = some y := by
    intro q f u hfe hq hu
    obtain ⟨ho, hk⟩ := hone_of hone q _ hfe
    have hg1 := hg q _ hfe
    rw [ho, hk] at hg1
    have hone' : (((Value.agg #[a0, a1, a2]).cells.toList).drop q).take 1 = [u] := by
      have e : (Value.agg #[a0, a1, a2]).cells.toList = [a0, a1, a2] := rfl
      rw [e]
      have hl : q < [a0, a1, a2].length := hq
      rw [List.drop_eq_getElem_cons hl]
      rw [List.getElem?_eq_getElem hl] at hu
      injection hu with hu
      rw [hu]; rfl
    rw [hone'] at hg1
    have hys : ys[q]? = some (ys[q]'(by have : (#[f0, f1, f2] : Array Field).size = 3 := rfl; omega)) := List.getElem?_eq_getElem _
    exact ⟨_, hg1.trans hys⟩
  obtain ⟨y0, t0⟩ := field 0 f0 a0 rfl (by omega) rfl
  obtain ⟨y1, t1⟩ := field 1 f1 a1 rfl (by omega) rfl
  obtain ⟨y2, t2⟩ := field 2 f2 a2 rfl (by omega) rfl
  obtain ⟨s, e0, _, hsz0⟩ := DataW.trod_string h0 t0
  injection e0 with e0
  subst e0
  rw [h1] at t1
  rw [h2] at t2
  obtain ⟨g1, q1⟩ := slice_form hs t1
  obtain ⟨g2, q2⟩ := slice_form hj t2
  obtain ⟨I, n, c, V, rfl, n1, n2, n3⟩ := hR _ _ _ q1 g1
  obtain ⟨J, m, e, x, rfl, m1, m2, m3⟩ := open_is hj hi hc q2 g2
  exact ⟨⟨s, n, V, m, x⟩, I, J, c, e, rfl, ⟨hsz0, n1, n3, m1⟩, n2, m2⟩
/-- A LIST OF WHAT IS SAVED, OPENED. -/
theorem open_saveds {t e ts tj te ti : TypeId} {f0 f1 f2 : Field} {v : Value} {d : DataW H} {ps : List MemPlace} (ht : P.underlying t = some (.slice e)) (he : P.underlying e = some (.struct #[f0, f1, f2]))
    (hone : oneCellFields P #[f0, f1, f2] = true) (hC : P.cellsOf e = 3) (h0 : P.underlying f0.type = some .string) (h1 : f1.type = ts) (h2 : f2.type = tj)
    (hs : P.underlying ts = some (.slice te)) (hR : ∀ v d ps, DataW.Trod enc P w 0 (fun _ => true) true ts v d ps → (∃ A n c, v = .slice A n c) → ∃ A n c, ∃ V : Nat → RV, v = .slice A n c ∧ n ≤ maxLen ∧ RS w A n V ∧ ∀ i, i < n → (V i).ok)
    (hj : P.underlying tj = some (.slice ti)) (hi : P.underlying ti = some (.int .i64)) (hc : P.cellsOf ti = 1)
    (hd : DataW.Trod enc P w 0 (fun _ => true) true t v d ps) (hv : ∃ A n c, v = .slice A n c) :
    ∃ A n c, ∃ S : Nat → SV, v = .slice A n c ∧ n ≤ maxLen ∧ SS w A n S ∧ ∀ i, i < n → (S i).ok := by
  obtain ⟨A, n, c, rfl⟩ := hv
  obtain ⟨fuel, hf⟩ := hd
  rcases open_slice ht hf with ⟨h00, _⟩ | ⟨a, len, cap, m', n', D, Pl, hcs, hb, hl, hm1, hmm, hx, hit⟩
  · have h0' : ([Value.slice A n c] : List Value) = [.slice none 0 0] := h00
    simp only [List.cons.injEq, Value.slice.injEq, and_true] at h0'
    obtain ⟨rfl, rfl, rfl⟩ := h0'
    exact ⟨_, _, _, fun _ => ⟨⟨#[]⟩, 0, fun _ => ⟨0, 0, fun _ => 0, 0, 0, 0⟩, 0, fun _ => 0⟩, rfl, Nat.zero_le _, ⟨fun _ => ⟨none, 0, none, 0⟩, .inl (by simp), fun i hi => absurd hi (by simp)⟩, fun j hj => absurd hj (by simp)⟩
  · have h0' : ([Value.slice A n c] : List Value) = [.slice (some a) len cap] := hcs
    simp only [List.cons.injEq, Value.slice.injEq, and_true] at h0'
    obtain ⟨rfl, rfl, rfl⟩ := h0'
    have hmn : n ≤ m' := by rw [hmm]; simp; exact hl
    have each : ∀ i, ∃ r : SV × SP, i < n → r.1.ok ∧ RS w r.2.A r.1.n r.1.V ∧ SL w r.2.B r.1.m (fun j => .int .i64 (r.1.x j)) ∧ w.cell? (a.add (i * 3)) = some (.string r.1.s) ∧ w.cell? (a.add (i * 3 + 1)) = some (.slice r.2.A r.1.n r.2.c) ∧ w.cell? (a.add (i * 3 + 2)) = some (.slice r.2.B r.1.m r.2.d) := by
      intro i
      by_cases hin : i < n
      · obtain ⟨cs', hc', ht'⟩ := hit i (by omega)
        rw [hC] at hc'
        obtain ⟨ys, n'', hn', hy, hlen, hyl, hg⟩ := DataW.trod_struct he ht'
        obtain ⟨_, hcl, hat⟩ := World.cells?_some hc'
        have field : ∀ (q : Nat) (f : Field), (#[f0, f1, f2] : Array Field)[q]? = some f → q < 3 → ∃ u y, w.cell? (a.add (i * 3 + q)) = some u ∧ DataW.trod enc P w 0 (fun _ => true) true n'' f.type [u] = some y := by
          intro q f hfe hq
          obtain ⟨ho, hk⟩ := hone_of hone q _ hfe
          have hcell := hat q (by omega)
          have hvv : cs'[q]? = some (cs'[q]'(by omega)) := List.getElem?_eq_getElem (by omega)
          have hg1 := hg q _ hfe
          rw [ho, hk] at hg1
          have hone' : (cs'.drop q).take 1 = [cs'[q]'(by omega)] := by
            rw [List.drop_eq_getElem_cons (by omega)]
            rfl
          rw [hone'] at hg1
          have hys : ys[q]? = some (ys[q]'(by have : (#[f0, f1, f2] : Array Field).size = 3 := rfl; omega)) := List.getElem?_eq_getElem _
          refine ⟨_, _, ?_, hg1.trans hys⟩
          have hadd : (a.add (i * 3)).add q = a.add (i * 3 + q) := Go.Deep.add_add ..
          rw [← hadd, hcell, hvv]
        obtain ⟨u0, y0, c0, t0⟩ := field 0 f0 rfl (by omega)
        obtain ⟨u1, y1, c1, t1⟩ := field 1 f1 rfl (by omega)
        obtain ⟨u2, y2, c2, t2⟩ := field 2 f2 rfl (by omega)
        obtain ⟨s, e0, _, hsz0⟩ := DataW.trod_string h0 t0
        injection e0 with e0
        subst e0
        rw [h1] at t1
        rw [h2] at t2
        obtain ⟨g1, q1⟩ := slice_form hs t1
        obtain ⟨g2, q2⟩ := slice_form hj t2
        obtain ⟨I, n1, cc, V, rfl, p1, p2, p3⟩ := hR _ _ _ q1 g1
        obtain ⟨J, m1, ee, x, rfl, r1, r2, r3⟩ := open_is hj hi hc q2 g2
        exact ⟨(⟨s, n1, V, m1, x⟩, ⟨I, cc, J, ee⟩), fun _ => ⟨⟨hsz0, p1, p3, r1⟩, p2, r2, c0, c1, c2⟩⟩
      · exact ⟨(⟨⟨#[]⟩, 0, fun _ => ⟨0, 0, fun _ => 0, 0, 0, 0⟩, 0, fun _ => 0⟩, ⟨none, 0, none, 0⟩), fun h => absurd h hin⟩
    obtain ⟨R, hR⟩ := Classical.axiomOfChoice each
    by_cases hn : n = 0
    · exact ⟨_, _, _, fun i => (R i).1, rfl, Nat.le_trans hl hm1, ⟨fun i => (R i).2, .inl (by simp [hn]), fun i hi => absurd hi (by omega)⟩, fun j hj => absurd hj (by omega)⟩
    · have hc0 := (hR 0 (by omega)).2.2.2.1
      have ha0 : (a.add (0 * 3)) = a := by unfold Addr.add; rw [if_pos (by omega)]
      rw [ha0] at hc0
      have hsp0 : a.spot = none := by
        unfold World.cell? at hc0
        split at hc0
        · split at hc0
          · cases hc0
          · rename_i hs; simpa using hs
        · cases hc0
      obtain ⟨b, off, sp⟩ := a
      simp only at hsp0
      subst hsp0
      have hadd : ∀ j, (Addr.mk b off none).add j = ⟨b, off + j, none⟩ := by
        intro j; unfold Addr.add
        split
        · rename_i h; subst h; rfl
        · rfl
      have hblk : b < w.heap.size := by
        unfold World.cell? at hc0
        split at hc0
        · rename_i h; exact (Array.getElem?_eq_some_iff.1 h).1
        · cases hc0
      refine ⟨_, _, _, fun i => (R i).1, rfl, Nat.le_trans hl hm1, ⟨fun i => (R i).2, .inr ⟨b, off, rfl, hblk, fun j hj => ?_⟩, fun i hi => ⟨(hR i hi).2.1, (hR i hi).2.2.1⟩⟩, fun i hi => (hR i hi).1⟩
      have hj3 : j / 3 < n := by omega
      obtain ⟨_, _, _, e0, e1, e2⟩ := hR (j / 3) hj3
      simp only [hadd] at e0 e1 e2
      have hcase : j % 3 = 0 ∨ j % 3 = 1 ∨ j % 3 = 2 := by omega
      rcases hcase with q | q | q
      · rw [show off + j = off + (j / 3 * 3) by omega, e0]; unfold svCell; rw [if_pos q]
      · rw [show off + j = off + (j / 3 * 3 + 1) by omega, e1]; unfold svCell; rw [if_neg (by omega), if_pos q]
      · rw [show off + j = off + (j / 3 * 3 + 2) by omega, e2]; unfold svCell; rw [if_neg (by omega), if_neg (by omega)]
end
end Go
