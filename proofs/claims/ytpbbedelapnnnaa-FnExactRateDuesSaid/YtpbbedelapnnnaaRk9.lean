/- Lines by their rates, by the program. -/
import Derived.Test.YtpbbedelapnnnaaRl9
import Derived.OwnWalk
namespace Go.Proofs.Ytpbbedelapnnnaa
open Go.RowKit Go.Dues
theorem Try.infoLn : (Try.prog.info? 162).map (fun i => (i.zero, i.size, i.bytes)) = some (some (.agg #[.int .i64 0, .int .i64 0]), 2, 16) := by kernel_rfl
theorem Try.infoLs : (Try.prog.info? 159).map (fun i => (i.zero, i.size, i.bytes)) = some (some (.slice none 0 0), 1, 24) := by kernel_rfl
theorem own_far9 {w w' : World} {B : Nat} {e : TypeId} {s g n c : Nat} {xs : List Value} (h : w.ownsRow B e s (.slice (some ⟨g, 0, none⟩) n c) n xs) (hb : ∀ b, b = g → w'.heap[b]? = w.heap[b]?) : w'.ownsRow B e s (.slice (some ⟨g, 0, none⟩) n c) n xs := by
  refine ⟨h.1, ?_⟩
  rcases h.2 with ⟨h0, _⟩ | ⟨g', cap, cur, h1, h2, h3, h4⟩
  · cases h0
  · simp only [Value.slice.injEq, Option.some.injEq, Addr.mk.injEq, and_true, true_and] at h1
    obtain ⟨rfl, rfl⟩ := h1
    exact .inr ⟨g, c, cur, rfl, h2, (hb g rfl).trans h3, h4⟩
theorem own_low9 {w : World} {B B' e size n : Nat} {v : Value} {xs : List Value} (h : w.ownsRow B e size v n xs) (hB : B' ≤ B) : w.ownsRow B' e size v n xs := by
  refine ⟨h.1, ?_⟩
  rcases h.2 with h0 | ⟨g, cap, cur, h1, h2, h3⟩
  · exact .inl h0
  · exact .inr ⟨g, cap, cur, h1, Nat.le_trans hB h2, h3⟩
theorem cell_two9 (w : World) (x y : Value) (t : TypeId) : ∀ j u, [x, y][j]? = some u → (w.alloc (.cells #[x, y] t)).cell? ((⟨w.heap.size, 0, none⟩ : Addr).add j) = some u := by
  intro j u hj
  match j, hj with
  | 0, hj => simp at hj; subst hj; simp [Addr.add]
  | 1, hj => simp at hj; subst hj; simp [Addr.add]
/-- the parts told so far -/
def PtP (x kd : Nat → Int) (n ga : Nat) (q : Nat) (ps : List Value) : Prop := ps.length = q ∧ ∀ p, p < q → ∃ ao, ps[p]? = some (.slice ao (lqL x kd p n).length (lqL x kd p n).length) ∧ ((lqL x kd p n).length ≠ 0 → ao = some ⟨ga, (laL x kd n p).length * 2, none⟩)
theorem ptP_step {x kd : Nat → Int} {n ga q : Nat} {ps : List Value} (h : PtP x kd n ga q ps) {ao : Option Addr} {m : Nat} (hm : m = (lqL x kd q n).length) (ha : m ≠ 0 → ao = some ⟨ga, (laL x kd n q).length * 2, none⟩) : PtP x kd n ga (q + 1) (ps ++ [.slice ao m m]) := by
  subst hm
  refine ⟨by rw [List.length_append, h.1]; rfl, fun p hp => ?_⟩
  by_cases e : p = q
  · subst e
    exact ⟨ao, by rw [List.getElem?_append_right (by rw [h.1]; exact Nat.le_refl _), h.1, Nat.sub_self]; rfl, ha⟩
  · obtain ⟨a, h1, h2⟩ := h.2 p (by omega)
    exact ⟨a, by rw [List.getElem?_append_left (by rw [h.1]; omega)]; exact h1, h2⟩
/-- what comes back: the parts, and the lines that they are parts of -/
def LinesBy (x kd : Nat → Int) (n cn : Nat) (w w' : World) (e : Ending) : Prop :=
  ∃ gp ps, e = .returned (.slice (some ⟨gp, 0, none⟩) cn cn) ∧ w'.ownsRow w.heap.size 159 1 (.slice (some ⟨gp, 0, none⟩) cn cn) cn ps ∧ w'.ownsRow w.heap.size 162 2 (.slice (some ⟨w.heap.size, 0, none⟩) (laL x kd n cn).length n) (laL x kd n cn).length (liV (laL x kd n cn)) ∧ PtP x kd n w.heap.size cn ps ∧ Below w.heap.size w w'
set_option maxRecDepth 100000 in
set_option maxHeartbeats 8000000 in
theorem implLinesBy_any (A : Option Addr) (n c : Nat) (x : Nat → Int) (A1 : Option Addr) (n1 c1 : Nat) (kd : Nat → Int) (cn : Nat) (w : World) (h1 : n1 = n) (hn32 : n ≤ 32) (hc16 : cn ≤ 16) (hs : SL w A n (fun j => .int .i64 (x j))) (hs1 : SL w A1 n1 (fun j => .int .i64 (kd j))) :
    Calls Try.prog 132 #[.slice A n c, .slice A1 n1 c1, .int .i64 cn] w fun e w' => LinesBy x kd n cn w w' e := by
  obtain ⟨i1, hi1, hy0, hy1, hy2⟩ := info_parts Try.infoLn
  obtain ⟨i2, hi2, hq0, hq1, hq2⟩ := info_parts Try.infoLs
  subst h1
  have HC := cells_a hs
  have HC1 := cells_a hs1
  clear hs hs1
  go_enter Try.func132, Try.ntmps132
  go_wp2_with (first
    | (at_make; refine wpList_make_own _ rfl _ _ 159 rfl w.heap.size 162 i1 (.agg #[.int .i64 0, .int .i64 0]) 2 Try.underlying159 hi1 hy0 hy1 _ _ _ n1 rfl rfl rfl (by rw [hy2]; omega) (by unfold maxLen; omega) (Nat.le_refl _) ?_; intro w1 hown1 hgrow1)
    | (at_make; refine wpList_make_own _ rfl _ _ 157 rfl w1.heap.size 159 i2 (.slice none 0 0) 1 Try.underlying157 hi2 hq0 hq1 _ _ _ cn rfl rfl rfl (by rw [hq2]; omega) (by unfold maxLen; omega) (Nat.le_refl _) ?_; intro w2 hown2 hgrow2))
  have HB1 := hide ((Below.refl w.heap.size w).grown hgrow1 (Nat.le_refl _) (fun k h => by cases h))
  have hz1 : w.heap.size < w1.heap.size := by
    rcases hown1.2 with ⟨h', _⟩ | ⟨g', cap', cur, h', _, hg, _⟩
    · cases h'
    · simp only [Value.slice.injEq, Option.some.injEq, Addr.mk.injEq, and_true, true_and] at h'
      obtain ⟨rfl, _⟩ := h'
      exact (Array.getElem?_eq_some_iff.1 hg).1
  have HB2 := hide (HB1.out.trans (((Below.refl w1.heap.size w1).grown hgrow2 (Nat.le_refl _) (fun k h => by cases h)).mono HB1.out.size))
  have HO1 := hide (own_far9 (w' := w2) hown1 (fun b hb => by subst hb; exact hgrow2.block _ hz1 (fun h => by cases h)))
  have HO2 := hide hown2
  clear hown1 hown2 hgrow1 hgrow2
  go_wp2
  go_loopw [7, 8, 9, 10, 11, 12, 19] (fun v u _ _ _ _ i wr => ∃ (q : Nat) (ps : List Value), q ≤ cn ∧ i = .int .i64 q ∧ v = .slice (some ⟨w.heap.size, 0, none⟩) (laL x kd n1 q).length n1 ∧ u = .slice (some ⟨w1.heap.size, 0, none⟩) q cn ∧ Hid (wr.ownsRow w.heap.size 162 2 v (laL x kd n1 q).length (liV (laL x kd n1 q))) ∧ Hid (wr.ownsRow w1.heap.size 159 1 u q ps) ∧ Hid (PtP x kd n1 w.heap.size q ps) ∧ Hid (Below w.heap.size w wr)) (fun _ _ _ _ _ _ i _ => cn - (intOf i).toNat)
  case atStart => exact ⟨0, [], Nat.zero_le _, rfl, rfl, rfl, HO1.out, HO2.out, ⟨rfl, fun p hp => absurd hp (by omega)⟩, HB2.out⟩
  case round =>
    obtain ⟨q, ps, hq, rfl, rfl, rfl, ho1, ho2, hps, hbel⟩ := hrel
    obtain ⟨wo, rfl⟩ : ∃ u, u = wr := ⟨_, rfl⟩
    by_cases hlt : q < cn
    · have hqi : (q : Int) < (cn : Int) := by omega
      have hlen := la_len x kd n1 q
      go_wp2
      go_loopw [7, 11, 12, 26] (fun v _ _ i wi => ∃ k : Nat, k ≤ n1 ∧ i = .int .i64 k ∧ v = .slice (some ⟨w.heap.size, 0, none⟩) ((laL x kd n1 q).length + (lqL x kd q k).length) n1 ∧ Hid (wi.ownsRow w.heap.size 162 2 v ((laL x kd n1 q).length + (lqL x kd q k).length) (liV (laL x kd n1 q ++ lqL x kd q k))) ∧ Hid (wi.ownsRow w1.heap.size 159 1 (.slice (some ⟨w1.heap.size, 0, none⟩) q cn) q ps) ∧ Hid (Below w.heap.size w wi)) (fun _ _ _ i _ => n1 - (intOf i).toNat)
      case atStart => exact ⟨0, Nat.zero_le _, rfl, rfl, (by have h := ho1.out; rw [show laL x kd n1 q ++ lqL x kd q 0 = laL x kd n1 q from List.append_nil _]; exact h), ho2.out, hbel.out⟩
      case round =>
        obtain ⟨k, hk, rfl, rfl, hv1, hv2, hb2⟩ := hrel
        by_cases hkn : k < n1
        · have hki : (k : Int) < (n1 : Int) := by omega
          obtain ⟨b, off, rfl, hb, hck⟩ := HC.out k hkn
          obtain ⟨b1, off1, rfl, hb1, hck1⟩ := HC1.out k hkn
          have d0 := (hb2.out.cell (p := ⟨b, off + k, none⟩) hb).trans hck
          have d1 := (hb2.out.cell (p := ⟨b1, off1 + k, none⟩) hb1).trans hck1
          clear hck hck1
          obtain ⟨X, hX⟩ : ∃ X, x k = X := ⟨_, rfl⟩
          obtain ⟨K, hK⟩ : ∃ K, kd k = K := ⟨_, rfl⟩
          rw [hX] at d0
          rw [hK] at d1
          by_cases he : K = (q : Int)
          · subst he
            have hqq : ((q : Int) == (q : Int)) = true := by simp
            have hroom := la_room (x := x) hkn hK
            have HM := hide (show lqL x kd q (k + 1) = lqL x kd q k ++ [(k, X)] from by rw [lq_hit hK, hX])
            have hlt2 := (hv2.out.lt _ rfl).2
            have hsz := hb2.out.size
            clear hX hK
            go_wp2_with (at_builtin; refine wpList_append_fits _ rfl _ _ 159 rfl w.heap.size 162 i1 2 Try.underlying159 hi1 hy1 w.heap.size _ n1 _ rfl (by exact (hv1.out.alloc _)) ⟨_, 0, none⟩ 1 1 [.int .i64 (k : Int), .int .i64 X] rfl rfl (cell_two9 _ _ _ _) (by intro u hu; simp at hu; rcases hu with rfl | rfl <;> rfl) (by omega) ?_)
            intro w3 hown3 hgrow
            have HB3 := hide ((hb2.out.alloc hsz (.cells #[.int .i64 (k : Int), .int .i64 X] 162)).grown hgrow (by simp; omega) (fun j hj => by injection hj with hj; omega))
            have HP3 := hide (own_far9 (w' := w3) (hv2.out.alloc (.cells #[.int .i64 (k : Int), .int .i64 X] 162)) (fun b hb => by subst hb; exact hgrow.block _ (by simp; omega) (fun h => by injection h with h; omega)))
            have HO3 := hide hown3
            clear hgrow hown3 hv1 hv2
            go_wp2
            go_roundw
            case rel =>
              refine ⟨k + 1, by omega, by go_num, ?_, ?_, HP3.out, HB3.out⟩
              · rw [HM.out, List.length_append]; rfl
              · rw [HM.out, ← List.append_assoc, liV_app, List.length_append]; exact HO3.out
            case measure => simp [intOf]; omega
          · have hne : (K == (q : Int)) = false := by simp [he]
            have HM := hide (lq_miss (x := x) (show kd k ≠ (q : Int) from by rw [hK]; exact he))
            clear he hX hK
            go_wp2
            go_roundw
            case rel => exact ⟨k + 1, by omega, by go_num, by rw [HM.out], by rw [HM.out]; exact hv1.out, hv2.out, hb2.out⟩
            case measure => simp [intOf]; omega
        · obtain rfl : k = n1 := by omega
          have hki : ¬ (k : Int) < (k : Int) := by omega
          have hT := la_len x kd k (q + 1)
          have hT2 : (laL x kd k (q + 1)).length = (laL x kd k q).length + (lqL x kd q k).length := by show (laL x kd k q ++ lqL x kd q k).length = _; rw [List.length_append]
          have HPS := hps
          clear hps ho1 ho2
          obtain ⟨a, ha⟩ : ∃ a, (laL x kd k q).length = a := ⟨_, rfl⟩
          obtain ⟨m, hm⟩ : ∃ m, (lqL x kd q k).length = m := ⟨_, rfl⟩
          have HA := hide ha
          have HMM := hide hm
          rw [ha, hm] at hv1 hT2 ⊢
          clear ha hm
          rw [hT2] at hT
          have hlt2 := (hv2.out.lt _ rfl).2
          have hsz := hb2.out.size
          have HX1 := hv1
          have HX2 := hv2
          clear hv1 hv2
          go_wp2_with (at_builtin; refine wpList_append_fits _ rfl _ _ 157 rfl w1.heap.size 159 i2 1 Try.underlying157 hi2 hq1 w1.heap.size q cn ps rfl (by exact (HX2.out.alloc _)) ⟨_, 0, none⟩ 1 1 [_] rfl rfl (cell_one_new _ _ _) (by intro u hu; simp at hu; subst hu; rfl) (by omega) ?_)
          all_goals
            intro w3 hown3 hgrow
            first | (have hm0 : m = 0 := by omega
                     subst hm0) | skip
            have hl1 := (HX1.out.lt _ rfl).2
            have HB3 := hide (Below.grown (Below.alloc hb2.out hsz _) hgrow (by simp; omega) (fun j hj => by injection hj with hj; omega))
            have HA3 := hide (own_far9 (w' := w3) (HX1.out.alloc _) (fun b hb => by subst hb; exact hgrow.block _ (by simp; omega) (fun h => by injection h with h; omega)))
            have HP3 := hide (show PtP x kd k w.heap.size (q + 1) (ps ++ [_]) from by first | exact ptP_step HPS.out (m := 0) (ao := some ⟨w.heap.size, 0, none⟩) HMM.out.symm (fun h => absurd rfl h) | exact ptP_step HPS.out HMM.out.symm (fun _ => by rw [HA.out]))
            have HO3 := hide hown3
            have HT2 := hide hT2
            clear hgrow hown3 hT2 hT
            go_wp2
            go_roundw
            case rel => exact ⟨q + 1, _, by omega, by go_num, (by rw [HT2.out]; try rfl), rfl, (by have h := HA3.out; rw [HT2.out]; exact h), HO3.out, HP3.out, HB3.out⟩
            case measure => simp [intOf]; omega
    · obtain rfl : q = cn := by omega
      have hqi : ¬ (q : Int) < (q : Int) := by omega
      have HO1 := ho1
      have HO2 := hide (own_low9 ho2.out (Nat.le_of_lt hz1))
      have HP := hps
      have HB := hbel
      clear ho1 ho2 hps hbel
      go_wp2
      go_ret
      exact ⟨w1.heap.size, ps, rfl, HO2.out, HO1.out, HP.out, HB.out⟩
end Go.Proofs.Ytpbbedelapnnnaa
