/- Slices of structs of int64 fields among the arguments. -/
import Derived.Test.YtpbbedelapnnnaaSlb
import Derived.Deep.Slices
import Derived.Deep.Fields
import Derived.ChangeSame
namespace Go
open Go.RowKit
section
open Go.ChangeShapes Go.WideShapes Go.Deep
variable {H : Type} {enc : TypeId × Value → H} {P : Program} {w : World}
/-- A SLICE OF STRUCTS OF int64, OPENED: its cells one behind the other. -/
theorem open_ents {t e : TypeId} {fs : Array Field} {v : Value} {d : DataW H} {ps : List MemPlace} (ht : P.underlying t = some (.slice e)) (he : P.underlying e = some (.struct fs))
    (hone : oneCellFields P fs = true) (hC : P.cellsOf e = fs.size) (m : Nat) (hm : fs.size = m) (hpos : 0 < m) (hint : ∀ (j : Nat) (f : Field), fs[j]? = some f → P.underlying f.type = some (.int .i64))
    (hd : DataW.Trod enc P w 0 (fun _ => true) true t v d ps) (hv : ∃ A n c, v = .slice A n c) :
    ∃ A n c, ∃ x : Nat → Int, v = .slice A n c ∧ n ≤ maxLen ∧ SL w A (n * m) (fun j => .int .i64 (x j)) ∧ ∀ j, j < n * m → -9223372036854775808 ≤ x j ∧ x j ≤ 9223372036854775807 := by
  obtain ⟨A, n, c, rfl⟩ := hv
  obtain ⟨fuel, hf⟩ := hd
  rcases open_slice ht hf with ⟨h0, _⟩ | ⟨a, len, cap, m', n', D, Pl, hcs, hb, hl, hm1, hmm, hx, hi⟩
  · have h0' : ([Value.slice A n c] : List Value) = [.slice none 0 0] := h0
    simp only [List.cons.injEq, Value.slice.injEq, and_true] at h0'
    obtain ⟨rfl, rfl, rfl⟩ := h0'
    exact ⟨_, _, _, fun _ => 0, rfl, Nat.zero_le _, .inl (by simp), fun j hj => absurd hj (by simp)⟩
  · have h0' : ([Value.slice A n c] : List Value) = [.slice (some a) len cap] := hcs
    simp only [List.cons.injEq, Value.slice.injEq, and_true] at h0'
    obtain ⟨rfl, rfl, rfl⟩ := h0'
    have hmn : n ≤ m' := by rw [hmm]; simp; exact hl
    have each : ∀ j, j < n * m → ∃ q : Int, w.cell? (a.add j) = some (.int .i64 q) ∧ -9223372036854775808 ≤ q ∧ q ≤ 9223372036854775807 := by
      intro j hj
      have hjm : j / m < n := (Nat.div_lt_iff_lt_mul hpos).2 hj
      have hmod : j % m < m := Nat.mod_lt _ hpos
      obtain ⟨cs', hc, ht'⟩ := hi (j / m) (by omega)
      rw [hC, hm] at hc
      obtain ⟨ys, n'', hn', hy, hlen, hyl, hg⟩ := DataW.trod_struct he ht'
      obtain ⟨_, hcl, hat⟩ := World.cells?_some hc
      have hjs : j % m < fs.size := by omega
      have hfe : fs[j % m]? = some (fs[j % m]) := Array.getElem?_eq_getElem hjs
      obtain ⟨ho, hk⟩ := hone_of hone (j % m) _ hfe
      have hcell := hat (j % m) (by omega)
      have hvv : cs'[j % m]? = some (cs'[j % m]'(by omega)) := List.getElem?_eq_getElem (by omega)
      have h1 := hg (j % m) _ hfe
      rw [ho, hk] at h1
      have hone' : (cs'.drop (j % m)).take 1 = [cs'[j % m]'(by omega)] := by
        rw [List.drop_eq_getElem_cons (by omega)]
        rfl
      rw [hone'] at h1
      have hys : ys[j % m]? = some (ys[j % m]'(by omega)) := List.getElem?_eq_getElem (by omega)
      obtain ⟨q, e1, _, e2⟩ := DataW.trod_int (hint _ _ hfe) (h1.trans hys)
      refine ⟨q, ?_, ?_⟩
      · have hadd : (a.add (j / m * m)).add (j % m) = a.add j := by rw [Go.Deep.add_add, Nat.div_add_mod']
        rw [← hadd, hcell, hvv]
        injection e1 with e1
        rw [e1]
      · have hmin : IntKind.i64.min = -9223372036854775808 := rfl
        have hmax : IntKind.i64.max = 9223372036854775807 := rfl
        simp only [Lit.wf, Bool.and_eq_true, decide_eq_true_eq] at e2
        omega
    by_cases hn : n = 0
    · exact ⟨_, _, _, fun _ => 0, rfl, Nat.le_trans hl hm1, .inl (by simp [hn]), fun j hj => absurd hj (by simp [hn])⟩
    · have hnm : 0 < n * m := Nat.mul_pos (by omega) hpos
      obtain ⟨q0, hc0, _⟩ := each 0 hnm
      have ha0 : (a.add 0) = a := by unfold Addr.add; rw [if_pos rfl]
      rw [ha0] at hc0
      have hsp0 : a.spot = none := by
        unfold World.cell? at hc0
        split at hc0
        · split at hc0
          · cases hc0
          · rename_i hs; simpa using hs
        · cases hc0
      obtain ⟨b, off, sp⟩ := a
      simp only at hsp0
      subst hsp0
      have hadd : ∀ j, (Addr.mk b off none).add j = ⟨b, off + j, none⟩ := by
        intro j; unfold Addr.add
        split
        · rename_i h; subst h; rfl
        · rfl
      have hblk : b < w.heap.size := by
        unfold World.cell? at hc0
        split at hc0
        · rename_i h; exact (Array.getElem?_eq_some_iff.1 h).1
        · cases hc0
      refine ⟨_, _, _, fun j => match w.cell? ⟨b, off + j, none⟩ with | some (.int _ q) => q | _ => 0, rfl, Nat.le_trans hl hm1, .inr ⟨b, off, rfl, hblk, fun j hj => ?_⟩, fun j hj => ?_⟩
      · obtain ⟨q, h1, _⟩ := each j hj
        rw [hadd] at h1
        simp only [h1]
      · obtain ⟨q, h1, h2⟩ := each j hj
        rw [hadd] at h1
        simp only [h1]
        exact h2
end
end Go
