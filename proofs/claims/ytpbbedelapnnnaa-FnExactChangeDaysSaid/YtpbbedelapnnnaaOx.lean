/- Rows of the call's own: copies of lists, stores, lower bounds. -/
import Derived.Test.YtpbbedelapnnnaaG1
import Derived.Test.YtpbbedelapnnnaaOs
import Derived.Test.YtpbbedelapnnnaaAl
import Derived.Laws.AppendOwn
namespace Go.Proofs.Ytpbbedelapnnnaa
open Go.RowKit Go.Dues
theorem own_other7 {w : World} {B e size g c n : Nat} {xs : List Value} {p : Addr} {v : Value} (h : w.ownsRow B e size (.slice (some ⟨g, 0, none⟩) n c) n xs) (hne : p.block ≠ g) : (w.setCell p v).ownsRow B e size (.slice (some ⟨g, 0, none⟩) n c) n xs := by
  refine ⟨h.1, ?_⟩
  rcases h.2 with ⟨h0, _⟩ | ⟨g', cap, cur, h1, h2, h3, h4⟩
  · cases h0
  · simp only [Value.slice.injEq, Option.some.injEq, Addr.mk.injEq, and_true, true_and] at h1
    obtain ⟨rfl, rfl⟩ := h1
    exact .inr ⟨g, c, cur, rfl, h2, blk_set hne h3, h4⟩
theorem own_lower7 {w : World} {B B' e size n : Nat} {v : Value} {xs : List Value} (h : w.ownsRow B e size v n xs) (hB : B' ≤ B) : w.ownsRow B' e size v n xs := by
  refine ⟨h.1, ?_⟩
  rcases h.2 with h0 | ⟨g, cap, cur, h1, h2, h3⟩
  · exact .inl h0
  · exact .inr ⟨g, cap, cur, h1, Nat.le_trans hB h2, h3⟩
theorem set_row {xs : List Value} {n k : Nat} {f f' : Nat → Int} {v : Int} (hl : xs.length = n) (h : ∀ j, j < n → xs[j]? = some (.int .i64 (f j))) (hf : ∀ j, j < n → f' j = if j = k then v else f j) : ∀ j, j < n → (xs.set k (.int .i64 v))[j]? = some (.int .i64 (f' j)) := by
  intro j hj
  rw [hf j hj]
  by_cases hjk : j = k
  · subst hjk; rw [List.getElem?_set_self (by omega), if_pos rfl]
  · rw [List.getElem?_set_ne (by omega), if_neg hjk]; exact h j hj
theorem spread_c1 {w : World} {b off n : Nat} {x : Nat → Int} {o : Obj} (hb : b < w.heap.size) (HC : ∀ j, j < n → w.cell? ⟨b, off + j, none⟩ = some (.int .i64 (x j))) : ∀ (j : Nat) (u : Value), ((List.range n).map fun j => Value.int .i64 (x j))[j]? = some u → (w.alloc o).cell? ((⟨b, off, none⟩ : Addr).add j) = some u := by
  intro j u hj
  rw [List.getElem?_map] at hj
  have hjn : j < n := by
    rcases Nat.lt_or_ge j n with h | h
    · exact h
    · rw [List.getElem?_eq_none (by simpa using h)] at hj; cases hj
  rw [List.getElem?_range hjn] at hj
  simp at hj
  subst hj
  have ha : (⟨b, off, none⟩ : Addr).add j = ⟨b, off + j, none⟩ := by
    unfold Addr.add
    split
    · rename_i h; subst h; rfl
    · rfl
  rw [ha, World.cell?_alloc_lt w _ _ hb]
  exact HC j hjn
theorem spread_x {n : Nat} {x : Nat → Int} : ∀ j, j < n → ([] ++ (List.range n).map fun j => Value.int .i64 (x j))[j]? = some (.int .i64 (x j)) := by
  intro j hj
  rw [List.nil_append, List.getElem?_map, List.getElem?_range hj]; rfl
theorem lit_own (w : World) (t : TypeId) : (w.alloc (.cells #[] t)).ownsRow w.heap.size t 1 (.slice (some ⟨w.heap.size, 0, none⟩) 0 0) 0 [] :=
  ⟨by simp, .inr ⟨w.heap.size, 0, #[], rfl, Nat.le_refl _, blocks1 w _, Nat.le_refl 0, by unfold maxLen; omega, rfl, rfl⟩⟩
set_option maxHeartbeats 1000000 in
theorem clone7_any (A : Option Addr) (n c : Nat) (x : Nat → Int) (w : World) (h1 : 1 ≤ n) (hn : n ≤ 1048576) (hs : SL w A n (fun j => .int .i64 (x j))) :
    Calls Try.prog 222 #[.slice A n c] w fun e w' => ∃ (g d : Nat) (xs : List Value), e = .returned (.slice (some ⟨g, 0, none⟩) n d) ∧ w'.ownsRow w.heap.size 2 1 (.slice (some ⟨g, 0, none⟩) n d) n xs ∧ (∀ j, j < n → xs[j]? = some (.int .i64 (x j))) ∧ Below w.heap.size w w' := by
  obtain ⟨i0, hi, hz0, hz1, hz2⟩ := info_parts Try.info64
  obtain ⟨b, off, rfl, hb, hc⟩ := hs.at_ (by omega)
  have qT : ∀ (w : World) (a : Option Addr) (n c n' c' : Nat), (binOp .eql 42 (.slice a n c) (.slice none n' c')).run Try.prog w = .ok (.bool a.isNone) w := fun w a n c n' c' => Lib.run_eql_slice_nil w _ _ a n c n' c' Try.underlying42
  have HC := hide hc
  clear hs hc
  have HST := hide (show (w.alloc (.cells #[] 2)).ownsRow w.heap.size 2 1 (.slice (some ⟨w.heap.size, 0, none⟩) 0 0) 0 [] from
    ⟨by simp, .inr ⟨w.heap.size, 0, #[], rfl, Nat.le_refl _, blocks1 w _, Nat.le_refl 0, by unfold maxLen; omega, rfl, rfl⟩⟩)
  go_enter Try.func222, Try.ntmps222
  go_wp2_with (at_builtin; refine wpList_append_own _ rfl _ _ 42 rfl w.heap.size 2 i0 (.int .i64 0) 1 8 Try.underlying42 hi hz0 hz1 hz2 rfl (by decide) _ _ _ rfl HST.out ⟨b, off, none⟩ n c ((List.range n).map fun j => .int .i64 (x j)) rfl (by simp) ?c1 ?c2 ?c3 ?c4 ?c5 ?_)
  case c1 =>
    intro j u hj
    rw [List.getElem?_map] at hj
    have hjn : j < n := by
      rcases Nat.lt_or_ge j n with h | h
      · exact h
      · rw [List.getElem?_eq_none (by simpa using h)] at hj; cases hj
    rw [List.getElem?_range hjn] at hj
    simp at hj
    subst hj
    have ha : (⟨b, off, none⟩ : Addr).add j = ⟨b, off + j, none⟩ := by
      unfold Addr.add
      split
      · rename_i h; subst h; rfl
      · rfl
    rw [ha, World.cell?_alloc_lt w _ _ hb]
    exact HC.out j hjn
  case c2 => intro u hu; rw [List.mem_map] at hu; obtain ⟨j, _, rfl⟩ := hu; rfl
  case c3 => unfold maxLen; omega
  case c4 => omega
  case c5 => simp
  intro v' w1 hown' hgrow _
  obtain ⟨g, d, rfl⟩ := Joins.ownsRow_form hown' (by omega)
  have HON := hide hown'
  have HB := hide (((Below.refl w.heap.size w).alloc (Nat.le_refl _) (.cells #[] 2)).grown hgrow (by simp) (fun j hj => by simp [Value.ownBlock] at hj; omega))
  clear hown' hgrow
  go_wp2
  go_ret
  exact ⟨g, d, _, rfl, HON.out, (fun j hj => by rw [List.getElem?_map, List.getElem?_range hj]; rfl), HB.out⟩
end Go.Proofs.Ytpbbedelapnnnaa
