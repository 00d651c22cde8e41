/- The words of a set, in their order. -/
import Derived.Test.YtjndhcdanpnniaaWl9
import Derived.Test.YtjndhcdanpnniaaAi
namespace Go.Proofs.Ytjndhcdanpnniaa
open Go.RowKit Go.Shelf Go.Dues
attribute [local go_sem] Oper.semAt_some
/-- of these words, the ones for which p holds -/
def thW (p : Int → Bool) (ws : List Wd) : List Int := (ws.map (·.val)).filter p
theorem thW_yes {p : Int → Bool} {ws : List Wd} {v : Wd} (h : p v.val = true) : thW p (ws ++ [v]) = thW p ws ++ [v.val] := by simp [thW, h]
theorem thW_no {p : Int → Bool} {ws : List Wd} {v : Wd} (h : p v.val = false) : thW p (ws ++ [v]) = thW p ws := by simp [thW, h]
theorem thW_len (p : Int → Bool) (ws : List Wd) : (thW p ws).length ≤ ws.length := by unfold thW; exact Nat.le_trans (List.length_filter_le _ _) (by simp)
set_option maxRecDepth 100000 in
set_option maxHeartbeats 8000000 in
theorem wordsThat_any (b o : Nat) (p : Int → Bool) (w : World) (hb : b < w.heap.size) (hs : WS w b o p) :
    Calls Try.prog 152 #[.func (.func 153) #[.pointer (some ⟨b, o, none⟩)] #[]] w fun e w' => ∃ G d, e = .returned (.slice G (thW p (wdL 16)).length d) ∧ OW w' w.heap.size w'.heap.size G (thW p (wdL 16)).length (fun j => .int .i64 (gl (thW p (wdL 16)) j)) ∧ Below w.heap.size w w' ∧ (thW p (wdL 16)).length ≤ d := by
  obtain ⟨i0, hi, hz0, hz1, hz2⟩ := info_parts Try.info64
  have HS := hide hs
  clear hs
  refine (callsIn_wide (n := 4)).1 ?_
  refine callsIn_of_wp_marks Try.func152 rfl trivial ?_ rfl
  simp only [Try.ntmps152, List.size_toArray, List.length_cons, List.length_nil, Nat.reduceAdd, Nat.reduceSub, Array.replicate_succ, Array.replicate_zero, List.push_toArray, List.append_toArray, List.nil_append, List.cons_append]
  gi_wp2
  obtain ⟨Bp, hBp⟩ : ∃ Bp, w.heap.size + 1 = Bp := ⟨_, rfl⟩
  obtain ⟨W0, hW0⟩ : ∃ u : World, u = (w.alloc (.cells #[.func (.func 153) #[.pointer (some ⟨b, o, none⟩)] #[]] 100)).alloc (.cells #[.slice none 0 0] 24) := ⟨_, rfl⟩
  have zW : W0.heap.size = Bp + 1 := by rw [hW0, ← hBp]; simp
  have gI : Boxed W0 w.heap.size 100 (.func (.func 153) #[.pointer (some ⟨b, o, none⟩)] #[]) := by rw [hW0]; exact (Boxed.new w 100 _).alloc _
  have gP : Boxed W0 Bp 24 (.slice none 0 0) := by rw [hW0, ← hBp]; have := Boxed.new (w.alloc (.cells #[.func (.func 153) #[.pointer (some ⟨b, o, none⟩)] #[]] 100)) 24 (.slice none 0 0); rw [World.size_alloc] at this; exact this
  have hBW : Below w.heap.size w W0 := by rw [hW0]; exact ((Below.refl _ _).alloc (Nat.le_refl _) _).alloc (by simp) _
  rw [← hW0, hBp]
  have HG := hide (show w.heap.size < Bp by omega)
  clear hW0
  refine wpIn_rangeFunc_ownG rfl (by omega) (gf := 198) (lb := #[]) rfl trivial (enters_of Try.func198 (by kernel_rfl) rfl)
    (words_stops (4 - 1) (by omega) W0) (fun _ _ => trivial) (fun _ _ _ _ _ _ _ _ => trivial) (Below.refl _ _) (fun _ => rfl)
    (fun (pre : List Wd) W => (∃ v, Boxed W Bp 24 v ∧ W.ownsRow W0.heap.size 2 1 v (thW p pre).length ((thW p pre).map (Value.int .i64)) ∧ True) ∧ Below Bp W0 W ∧ W0.heap.size ≤ W.heap.size)
    (fun _ (_ : List Wd) _ => False)
    (OwnFrom.and (Own.from (holdsRow_own W0.heap.size Bp 24 2 1 (fun (pre : List Wd) => (thW p pre).length) (fun pre => (thW p pre).map (Value.int .i64)) (fun _ _ => True)) _) (OwnFrom.and (ownFrom_below (by omega) (by omega)) (fun _ _ _ _ hs hg _ => Nat.le_trans hs hg.size)))
    (fun _ => ownFrom_pure _ (fun _ => False))
    ⟨⟨_, gP, World.ownsRow_nil _ _ _ _, trivial⟩, Below.refl _ _, Nat.le_refl _⟩
    (fun y => { tmps := #[.func (.func 153) #[.pointer (some ⟨b, o, none⟩)] #[], .pointer (some ⟨w.heap.size, 0, none⟩), .slice none 0 0, .pointer (some ⟨Bp, 0, none⟩), .int .i64 y.val, .int .i64 y.val, undef, undef, undef, undef, undef, undef, undef, undef], defers := [] }) ?assign ?body ?done ?stop
  case assign =>
    intro l y W K hK
    gi_wp2
    exact hK
  case body =>
    rintro l pre y W ⟨⟨v, hv, hrow, -⟩, hB, hsW⟩ hlt
    have HB := hide hB
    have HROW := hide hrow
    have HV := hide hv
    have hc := hv.cell
    have HI := hide (blk_below hB HG.out gI)
    have hci := Joins.cell_of_block HI.out 0
    simp at hci
    have HW := hide (wsHas_any b o p y.val W y.property.2.1 y.property.2.2 (fun j hj => (hB.cell (p := ⟨b, o + j, none⟩) (by show b < Bp; omega)).trans ((hBW.cell (p := ⟨b, o + j, none⟩) hb).trans (HS.out j hj))))
    have hln := thW_len p pre
    clear hB gI gP hBW
    cases gy : p y.val
    · rw [gy] at HW
      have HN := hide (thW_no (ws := pre) gy)
      clear gy
      gi_wp2_with (refine ⟨trivial, ?_⟩; gi_at_call 153; refine (callsIn_wide.2 HW.out).mono ?_; rintro e w' ⟨rfl, rfl⟩)
      exact ⟨KeepsFrom.refl _ _, trivial, ⟨_, HV.out, by rw [HN.out]; exact HROW.out, trivial⟩, HB.out, hsW⟩
    · rw [gy] at HW
      have HN := hide (thW_yes (ws := pre) gy)
      clear gy
      gi_wp2_with (first | (refine ⟨trivial, ?_⟩; gi_at_call 153; refine (callsIn_wide.2 HW.out).mono ?_; rintro e w' ⟨rfl, rfl⟩) | (gi_at_builtin; refine wpListIn_append_own _ rfl _ _ 24 rfl W0.heap.size 2 i0 (.int .i64 0) 1 8 Try.underlying24 hi hz0 hz1 hz2 rfl (by decide) _ _ _ rfl (hrow.alloc _) ⟨W.heap.size, 0, none⟩ 1 1 [.int .i64 y.val] rfl rfl (cell_one_new _ _ _) (by simp [Value.oneCell']) (by unfold maxLen; omega) (by omega) (by simp; omega) ?_; intro v' w2 hown' hgrow _; obtain ⟨g', cap', rfl⟩ := ownsRow_succ hown'; obtain ⟨hv1, hv2, hr2, hk2, hb2, hkeep⟩ := collectedR hv hrow hsW (show Bp < W0.heap.size by omega) (show Bp ≤ Bp by omega) hown' hgrow; have hc1 := hv1.cell; have hf1 := hv1.frozen))
      exact ⟨hk2.from _, trivial, ⟨_, hv2, by rw [HN.out, List.length_append, List.map_append]; exact hr2, trivial⟩, HB.out.trans hb2, by have := hk2.size; omega⟩
  case done =>
    rintro D ys W hD rfl ⟨⟨v, hv, hrow, -⟩, hB, hsW⟩ hK
    obtain ⟨G, d, rfl⟩ := own_shape hrow
    have hc := hv.cell
    have HK' := hide hK
    have HO := hide hrow
    have HB := hide (hBW.trans (hB.mono (by omega)))
    clear hB hK gI gP hBW
    gi_wp2
    refine ⟨by simp, .inl ⟨_, _, rfl, run_takeDeferred HK'.out, ?_⟩⟩
    have hr2 := ownsRow_putObj HO.out (.deferred none) HK'.out rfl
    refine ⟨.slice G (thW p (wdL 16)).length d, ?_, ⟨G, d, rfl, (own_ints hr2).wide (by omega) (Nat.le_refl _), HB.out.trans (belowK_b (w := w) (Nat.le_refl _) _ D _ _ (by omega) HK'.out rfl rfl), own_cap hr2⟩⟩
    simp [results, Try.f152, go_sem]
  case stop =>
    rintro D cd pre W hD _ h _
    exact h.elim
end Go.Proofs.Ytjndhcdanpnniaa
