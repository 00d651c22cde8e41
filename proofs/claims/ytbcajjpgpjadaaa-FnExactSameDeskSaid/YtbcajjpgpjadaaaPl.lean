/- The laws' own helpers over peoples: sizes, copies, comparisons, marks. -/
import Derived.Test.YtbcajjpgpjadaaaMf
import Derived.Test.YtbcajjpgpjadaaaG1
namespace Go
open Go.RowKit
theorem bd32 {x : Nat} (h : (Lit.float .f32 x).wf = true) : x < 4294967296 := by simpa [Lit.wf] using h
section
open Go.ChangeShapes Go.WideShapes Go.Deep
variable {H : Type} {enc : TypeId × Value → H} {P : Program} {w : World}
theorem open_ppl {r : Reach} {b0 : Nat} {t ts e : TypeId} {f0 f1 f2 : Field} {v : Value} {d : DataW H} {p : List MemPlace} (hs : P.underlying t = some (.struct #[f0, f1, f2])) (hone : oneCellFields P #[f0, f1, f2] = true) (hC : P.cellsOf t = 3)
    (h0 : f0.type = ts) (h1 : f1.type = ts) (h2 : f2.type = ts) (ht : P.underlying ts = some (.slice e)) (he : P.underlying e = some (.float .f32)) (hc : P.cellsOf e = 1)
    (hv : Value.okWide P w r b0 t v) (hd : DataW.Trod enc P w 0 (fun _ => true) true t v d p) :
    ∃ A n c B m d C l f, ∃ x y z : Nat → Nat, v = .agg #[.slice A n c, .slice B m d, .slice C l f] ∧ n ≤ maxLen ∧ m ≤ maxLen ∧ l ≤ maxLen ∧ SL w A n (fun j => .float .f32 (x j)) ∧ SL w B m (fun j => .float .f32 (y j)) ∧ SL w C l (fun j => .float .f32 (z j)) ∧
      (∀ j, j < n → (Lit.float .f32 (x j)).wf = true) ∧ (∀ j, j < m → (Lit.float .f32 (y j)).wf = true) ∧ ∀ j, j < l → (Lit.float .f32 (z j)).wf = true := by
  obtain ⟨v0, v1, v2, y0, y1, y2, q, rfl, _, _, hy0, hy1, hy2⟩ := Joins.open_agg3 hs hone hC hv hd
  rw [h0] at hy0
  rw [h1] at hy1
  rw [h2] at hy2
  have form : ∀ (u : Value) (z : DataW H × List MemPlace), DataW.trod enc P w 0 (fun _ => true) true q ts [u] = some z → (∃ A n c, u = .slice A n c) ∧ DataW.Trod enc P w 0 (fun _ => true) true ts u z.1 z.2 := by
    intro u z hz
    rcases DataW.trod_slice ht hz with ⟨hh, _⟩ | ⟨a, len, cap, _, _, _, _, hh, _⟩
    · simp only [List.cons.injEq, and_true] at hh
      subst hh
      exact ⟨⟨_, _, _, rfl⟩, q, hz⟩
    · simp only [List.cons.injEq, and_true] at hh
      subst hh
      exact ⟨⟨_, _, _, rfl⟩, q, hz⟩
  obtain ⟨hv0, t0⟩ := form v0 y0 hy0
  obtain ⟨hv1, t1⟩ := form v1 y1 hy1
  obtain ⟨hv2, t2⟩ := form v2 y2 hy2
  obtain ⟨A, n, c, x, rfl, a1, a2, a3⟩ := open_fl ht he hc t0 hv0
  obtain ⟨B, m, d, y, rfl, b1, b2, b3⟩ := open_fl ht he hc t1 hv1
  obtain ⟨C, l, f, z, rfl, c1, c2, c3⟩ := open_fl ht he hc t2 hv2
  exact ⟨A, n, c, B, m, d, C, l, f, x, y, z, rfl, a1, b1, c1, a2, b2, c2, a3, b3, c3⟩
end
end Go
namespace Go.Proofs.Ytbcajjpgpjadaaa
open Go.RowKit
theorem szFl_any (A : Option Addr) (n c : Nat) (l : Int) (w : World) (hn : n ≤ maxLen) (h0 : 0 ≤ l) (h1 : l ≤ 1048576) :
    Calls Try.prog 84 #[.slice A n c, .int .i64 l] w fun e w' => e = .returned (.int .i64 (if l < n then -1 else l - n)) ∧ w = w' := by
  unfold maxLen at hn
  by_cases h : l < n
  · rw [if_pos h]
    have h2 : l - (n : Int) < 0 := by omega
    go_enter Try.func84, Try.ntmps84
    go_wp2
    go_ret
    exact ⟨rfl, rfl⟩
  · rw [if_neg h]
    have h2 : ¬ l - (n : Int) < 0 := by omega
    go_enter Try.func84, Try.ntmps84
    go_wp2
    go_ret
    exact ⟨rfl, rfl⟩
end Go.Proofs.Ytbcajjpgpjadaaa
