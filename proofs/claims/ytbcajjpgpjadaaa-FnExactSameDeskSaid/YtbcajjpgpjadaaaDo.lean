/- A desk among the arguments of a law: a struct of a struct of two slices, and three slices. -/
import Derived.Test.YtbcajjpgpjadaaaSlb
import Derived.Test.YtbcajjpgpjadaaaSl
namespace Go
open Go.RowKit
theorem array5 {α : Type} {cs : Array α} (h : cs.size = 5) : ∃ c0 c1 c2 c3 c4, cs = #[c0, c1, c2, c3, c4] := by
  obtain ⟨l⟩ := cs
  match l, h with
  | [c0, c1, c2, c3, c4], _ => exact ⟨c0, c1, c2, c3, c4, rfl⟩
section
open Go.ChangeShapes Go.WideShapes Go.Deep
variable {H : Type} {enc : TypeId × Value → H} {P : Program} {w : World}
theorem field_slice {ts e : TypeId} {m : Nat} {u : Value} {z : DataW H × List MemPlace} (ht : P.underlying ts = some (.slice e)) (hz : DataW.trod enc P w 0 (fun _ => true) true m ts [u] = some z) : (∃ A n c, u = .slice A n c) ∧ DataW.Trod enc P w 0 (fun _ => true) true ts u z.1 z.2 := by
  rcases DataW.trod_slice ht hz with ⟨hh, _⟩ | ⟨a, len, cap, _, _, _, _, hh, _⟩
  · simp only [List.cons.injEq, and_true] at hh
    subst hh
    exact ⟨⟨_, _, _, rfl⟩, m, hz⟩
  · simp only [List.cons.injEq, and_true] at hh
    subst hh
    exact ⟨⟨_, _, _, rfl⟩, m, hz⟩
theorem open_desk {r : Reach} {b0 : Nat} {t td ti tf ei ef : TypeId} {f0 f1 f2 f3 g0 g1 : Field} {v : Value} {d : DataW H} {p : List MemPlace}
    (hs : P.underlying t = some (.struct #[f0, f1, f2, f3])) (hC : P.cellsOf t = 5) (h0 : f0.type = td) (h1 : f1.type = ti) (h2 : f2.type = ti) (h3 : f3.type = tf)
    (o0 : f0.offset = 0) (o1 : f1.offset = 2) (o2 : f2.offset = 3) (o3 : f3.offset = 4) (kd : P.cellsOf td = 2) (ki : P.cellsOf ti = 1) (kf : P.cellsOf tf = 1)
    (hd0 : P.underlying td = some (.struct #[g0, g1])) (q0 : g0.type = ti) (q1 : g1.type = ti) (u0 : g0.offset = 0) (u1 : g1.offset = 1)
    (ht : P.underlying ti = some (.slice ei)) (he : P.underlying ei = some (.int .i64)) (hc : P.cellsOf ei = 1)
    (htf : P.underlying tf = some (.slice ef)) (hef : P.underlying ef = some (.float .f32)) (hcf : P.cellsOf ef = 1)
    (hv : Value.okWide P w r b0 t v) (hd : DataW.Trod enc P w 0 (fun _ => true) true t v d p) :
    ∃ A n c B m e C l f D k g E q s, ∃ x y z u : Nat → Int, ∃ z5 : Nat → Nat, v = .agg #[.slice A n c, .slice B m e, .slice C l f, .slice D k g, .slice E q s] ∧ n ≤ maxLen ∧ m ≤ maxLen ∧ l ≤ maxLen ∧ k ≤ maxLen ∧ q ≤ maxLen ∧
      SL w A n (fun j => .int .i64 (x j)) ∧ SL w B m (fun j => .int .i64 (y j)) ∧ SL w C l (fun j => .int .i64 (z j)) ∧ SL w D k (fun j => .int .i64 (u j)) ∧ SL w E q (fun j => .float .f32 (z5 j)) ∧
      (∀ j, j < n → -9223372036854775808 ≤ x j ∧ x j ≤ 9223372036854775807) ∧ (∀ j, j < m → -9223372036854775808 ≤ y j ∧ y j ≤ 9223372036854775807) ∧ (∀ j, j < l → -9223372036854775808 ≤ z j ∧ z j ≤ 9223372036854775807) ∧ (∀ j, j < k → -9223372036854775808 ≤ u j ∧ u j ≤ 9223372036854775807) ∧ (∀ j, j < q → (Lit.float .f32 (z5 j)).wf = true) := by
  obtain ⟨cs, rfl, hsz⟩ := okWide_struct hs hv
  obtain ⟨c0, c1, c2, c3, c4, rfl⟩ := array5 (hsz.trans hC)
  obtain ⟨fuel, hf⟩ := hd
  obtain ⟨y0, y1, y2, y3, n, _, _, t0, t1, t2, t3⟩ := Joins.trod_struct4 hs hf
  rw [h0, o0, kd] at t0
  rw [h1, o1, ki] at t1
  rw [h2, o2, ki] at t2
  rw [h3, o3, kf] at t3
  simp only [Value.cells, List.drop, List.take] at t0 t1 t2 t3
  obtain ⟨w0, w1, n', _, _, s0, s1⟩ := trod_struct2 hd0 t0
  rw [q0, u0, ki] at s0
  rw [q1, u1, ki] at s1
  simp only [List.drop, List.take] at s0 s1
  obtain ⟨hva, ra⟩ := field_slice ht s0
  obtain ⟨hvb, rb⟩ := field_slice ht s1
  obtain ⟨hvc, rc⟩ := field_slice ht t1
  obtain ⟨hvd, rd⟩ := field_slice ht t2
  obtain ⟨hve, re⟩ := field_slice htf t3
  obtain ⟨A, n, c, x, rfl, a1, a2, a3⟩ := open_is ht he hc ra hva
  obtain ⟨B, m, e, y, rfl, b1, b2, b3⟩ := open_is ht he hc rb hvb
  obtain ⟨C, l, f, z, rfl, e1, e2, e3⟩ := open_is ht he hc rc hvc
  obtain ⟨D, k, g, u, rfl, d1, d2, d3⟩ := open_is ht he hc rd hvd
  obtain ⟨E, q, s, z5, rfl, i1, i2, i3⟩ := open_fl htf hef hcf re hve
  exact ⟨A, n, c, B, m, e, C, l, f, D, k, g, E, q, s, x, y, z, u, z5, rfl, a1, b1, e1, d1, i1, a2, b2, e2, d2, i2, a3, b3, e3, d3, i3⟩
end
end Go
