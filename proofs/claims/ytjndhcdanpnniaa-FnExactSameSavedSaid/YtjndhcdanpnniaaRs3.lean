/- SameRules, by the program. -/
import Derived.Test.YtjndhcdanpnniaaRs2
import Derived.Lib.QuietBelow
namespace Go.Proofs.Ytjndhcdanpnniaa
open Go.RowKit Go.Dues
theorem Try.info64q : (Try.prog.info? 2).map (fun i => (i.zero, i.size, i.bytes)) = some (some (.int .i64 0), 1, 8) := by kernel_rfl
theorem eqArr4 (a0 a1 a2 a3 b0 b1 b2 b3 : Int) (w : World) : (binOp .eql 184 (.agg #[.int .i64 a0, .int .i64 a1, .int .i64 a2, .int .i64 a3]) (.agg #[.int .i64 b0, .int .i64 b1, .int .i64 b2, .int .i64 b3])).run Try.prog w = .ok (.bool (a0 == b0 && (a1 == b1 && (a2 == b2 && a3 == b3)))) w := by
  have u3 := Try.underlying2
  have a3' := Try.isAgg2
  have z3 := Try.sizeOf2
  have hc : Try.prog.cellsOf 2 = 1 := by kernel_rfl
  obtain ⟨i0, hi, hz0, hz1, hz2⟩ := info_parts Try.info64q
  rw [run_eql_struct, show (10000 : Nat) = 9999 + 1 from rfl, run_equalIn_array w 9999 _ _ Try.underlying184 hi, hc]
  simp only [show List.range 4 = [0, 1, 2, 3] from rfl, Op.eqItems]
  go_simp
  by_cases h0 : a0 = b0 <;> by_cases h1 : a1 = b1 <;> by_cases h2 : a2 = b2 <;> by_cases h3 : a3 = b3 <;> simp [h0, h1, h2, h3]
set_option maxRecDepth 100000 in
set_option maxHeartbeats 2000000 in
theorem implNumbers_any (r : RV) (I : Option Addr) (ci : Nat) (w : World) : Calls Try.prog 179 #[.agg #[.int .i64 r.h, .slice I r.n ci, .int .i64 r.f, .int .i64 r.t, .int .i64 r.k]] w fun e w' => e = .returned (.agg #[.int .i64 r.h, .int .i64 r.f, .int .i64 r.t, .int .i64 r.k]) ∧ Below w.heap.size w w' := by
  go_enter Try.func179, Try.ntmps179
  go_wp2
  refine bodyPost_ret (v := .agg #[.int .i64 r.h, .int .i64 r.f, .int .i64 r.t, .int .i64 r.k]) (by simp [results, Try.results179, go_sem]) rfl ⟨rfl, ?_⟩
  exact (((Below.refl w.heap.size w).alloc (Nat.le_refl _) _).alloc (by simp) _)
theorem sameLB_any (A : Option Addr) (n c : Nat) (x : Nat → Int) (B : Option Addr) (m d : Nat) (y : Nat → Int) (w : World) (hn : n ≤ maxLen) (hm : m ≤ maxLen) (hs : SL w A n (fun j => .int .i64 (x j))) (hs' : SL w B m (fun j => .int .i64 (y j))) :
    Calls Try.prog 106 #[.slice A n c, .slice B m d] w fun e w' => e = .returned (.bool (tru (eqLs x n y m))) ∧ Below w.heap.size w w' :=
  (implSameL_any A n c x B m d y w hn hm hs hs').mono fun _ _ ⟨he, _, hw⟩ => ⟨he, by rw [hw]; exact bel_drewN (Below.refl _ _) _⟩
theorem b4_yes {r s : RV} (h0 : r.h = s.h) (h1 : r.f = s.f) (h2 : r.t = s.t) (h3 : r.k = s.k) : (r.h == s.h && (r.f == s.f && (r.t == s.t && r.k == s.k))) = true := by simp [h0, h1, h2, h3]
theorem b4_no {r s : RV} (h : ¬ (r.h = s.h ∧ r.f = s.f ∧ r.t = s.t ∧ r.k = s.k)) : (r.h == s.h && (r.f == s.f && (r.t == s.t && r.k == s.k))) = false := by
  rw [← Bool.not_eq_true]
  intro e
  simp at e
  exact h e
set_option maxRecDepth 100000 in
set_option maxHeartbeats 4000000 in
theorem fnSame_any (r s : RV) (I J : Option Addr) (ci cj : Nat) (w : World) (hn : r.n ≤ maxLen) (hm : s.n ≤ maxLen) (hI : SL w I r.n (fun j => .int .i64 (r.x j))) (hJ : SL w J s.n (fun j => .int .i64 (s.x j))) :
    Calls Try.prog 178 #[.agg #[.int .i64 r.h, .slice I r.n ci, .int .i64 r.f, .int .i64 r.t, .int .i64 r.k], .agg #[.int .i64 s.h, .slice J s.n cj, .int .i64 s.f, .int .i64 s.t, .int .i64 s.k]] w fun e w' => e = .returned (.bool (tru (sameR r s))) ∧ Below w.heap.size w w' := by
  have hg : Try.prog.eqGuardType Try.prog.depth 184 = false := by kernel_rfl
  obtain ⟨W, hW⟩ : ∃ u, u = (w.alloc (.cells #[.int .i64 r.h, .slice I r.n ci, .int .i64 r.f, .int .i64 r.t, .int .i64 r.k] 61)).alloc (.cells #[.int .i64 s.h, .slice J s.n cj, .int .i64 s.f, .int .i64 s.t, .int .i64 s.k] 61) := ⟨_, rfl⟩
  have HBW : Hid (Below w.heap.size w W) := by rw [hW]; exact ((Below.refl w.heap.size w).alloc (Nat.le_refl _) _).alloc (by simp) _
  have PP := hide (show _ ∧ _ by have := blocks2 w (.cells #[.int .i64 r.h, .slice I r.n ci, .int .i64 r.f, .int .i64 r.t, .int .i64 r.k] 61) (.cells #[.int .i64 s.h, .slice J s.n cj, .int .i64 s.f, .int .i64 s.t, .int .i64 s.k] 61); rw [← hW] at this; exact this)
  have k0 := Joins.cell_of_block PP.out.1 0
  have q0 := Joins.cell_of_block PP.out.2 0
  have k1 := Joins.cell_of_block PP.out.1 1
  have q1 := Joins.cell_of_block PP.out.2 1
  have k2 := Joins.cell_of_block PP.out.1 2
  have q2 := Joins.cell_of_block PP.out.2 2
  have k3 := Joins.cell_of_block PP.out.1 3
  have q3 := Joins.cell_of_block PP.out.2 3
  have k4 := Joins.cell_of_block PP.out.1 4
  have q4 := Joins.cell_of_block PP.out.2 4
  simp at k0 k1 k2 k3 k4 q0 q1 q2 q3 q4
  have K0 := cell_regrown k0
  have Q0 := cell_regrown q0
  have K1 := cell_regrown k1
  have Q1 := cell_regrown q1
  have K2 := cell_regrown k2
  have Q2 := cell_regrown q2
  have K3 := cell_regrown k3
  have Q3 := cell_regrown q3
  have K4 := cell_regrown k4
  have Q4 := cell_regrown q4
  have HN := fun r I c d os => hide (implNumbers_any r I c (Go.Sort.grow (redrawn W d) os))
  have HS := fun d os => hide (sameLB_any I r.n ci r.x J s.n cj s.x (Go.Sort.grow (redrawn W d) os) hn hm ((hI.below HBW.out).below (below_regrown W d os)) ((hJ.below HBW.out).below (below_regrown W d os)))
  have HWW := hide hW
  clear hI hJ hW
  by_cases h4 : r.h = s.h ∧ r.f = s.f ∧ r.t = s.t ∧ r.k = s.k
  rotate_left
  · have HE := b4_no h4
    have EQ : ∀ w, (binOp .eql 184 (.agg #[.int .i64 r.h, .int .i64 r.f, .int .i64 r.t, .int .i64 r.k]) (.agg #[.int .i64 s.h, .int .i64 s.f, .int .i64 s.t, .int .i64 s.k])).run Try.prog w = .ok (.bool false) w := by
      intro w; rw [eqArr4, HE]
    have HT := hide (tru_no (show ¬ sameR r s from fun h => h4 ⟨h.1, h.2.1, h.2.2.1, h.2.2.2.1⟩))
    clear HE h4
    go_enter Try.func178, Try.ntmps178
    go_wp2_with fail
    rw [← HWW.out]
    clear HWW
    refine wp_region_quiet_below (by kernel_rfl) (by kernel_rfl) ?_
    repeat (first | go_big_quiet_step (first | exact Calls.regrown_of (HN _ _ _ _ _).out | exact Calls.regrown_of (ret_eq (HS _ _).out gl)) | quiet_step (first | exact Calls.regrown_of (HN _ _ _ _ _).out | exact Calls.regrown_of (ret_eq (HS _ _).out gl)))
    refine wpQuiet_nil ?_
    intro _ hw'
    obtain ⟨⟨dq, osq⟩, hw''⟩ := hw'
    subst hw''
    go_wp2
    go_ret
    exact ⟨retBr HT.out.symm, HBW.out.trans ((below_regrown W dq osq).mono HBW.out.size)⟩
  have HE := b4_yes h4.1 h4.2.1 h4.2.2.1 h4.2.2.2
  have EQ : ∀ w, (binOp .eql 184 (.agg #[.int .i64 r.h, .int .i64 r.f, .int .i64 r.t, .int .i64 r.k]) (.agg #[.int .i64 s.h, .int .i64 s.f, .int .i64 s.t, .int .i64 s.k])).run Try.prog w = .ok (.bool true) w := by
    intro w; rw [eqArr4, HE]
  have H4 := hide h4
  clear HE h4
  cases gl : tru (eqLs r.x r.n s.x s.n)
  · have HT := hide (tru_no (show ¬ sameR r s from fun h => truN gl h.2.2.2.2))
    go_enter Try.func178, Try.ntmps178
    go_wp2_with fail
    rw [← HWW.out]
    clear HWW
    refine wp_region_quiet_below (by kernel_rfl) (by kernel_rfl) ?_
    repeat (first | go_big_quiet_step (first | exact Calls.regrown_of (HN _ _ _ _ _).out | exact Calls.regrown_of (ret_eq (HS _ _).out gl)) | quiet_step (first | exact Calls.regrown_of (HN _ _ _ _ _).out | exact Calls.regrown_of (ret_eq (HS _ _).out gl)))
    refine wpQuiet_nil ?_
    intro _ hw'
    obtain ⟨⟨dq, osq⟩, hw''⟩ := hw'
    subst hw''
    go_wp2
    go_ret
    exact ⟨retBr HT.out.symm, HBW.out.trans ((below_regrown W dq osq).mono HBW.out.size)⟩
  · have HT := hide (tru_yes (show sameR r s from ⟨H4.out.1, H4.out.2.1, H4.out.2.2.1, H4.out.2.2.2, truV gl⟩))
    go_enter Try.func178, Try.ntmps178
    go_wp2_with fail
    rw [← HWW.out]
    clear HWW
    refine wp_region_quiet_below (by kernel_rfl) (by kernel_rfl) ?_
    repeat (first | go_big_quiet_step (first | exact Calls.regrown_of (HN _ _ _ _ _).out | exact Calls.regrown_of (ret_eq (HS _ _).out gl)) | quiet_step (first | exact Calls.regrown_of (HN _ _ _ _ _).out | exact Calls.regrown_of (ret_eq (HS _ _).out gl)))
    refine wpQuiet_nil ?_
    intro _ hw'
    obtain ⟨⟨dq, osq⟩, hw''⟩ := hw'
    subst hw''
    go_wp2
    go_ret
    exact ⟨retBr HT.out.symm, HBW.out.trans ((below_regrown W dq osq).mono HBW.out.size)⟩
set_option maxRecDepth 100000 in
set_option maxHeartbeats 4000000 in
theorem equalRules_any (A : Option Addr) (n c : Nat) (V : Nat → RV) (B : Option Addr) (m d : Nat) (U : Nat → RV) (w : World) (hn : n ≤ maxLen) (hv : ∀ i, i < n → (V i).n ≤ maxLen) (hs : RS w A n V) (hm : m ≤ maxLen) (hu : ∀ i, i < m → (U i).n ≤ maxLen) (hs' : RS w B m U) :
    Calls Try.prog 177 #[.slice A n c, .slice B m d, .func (Fn.func 178) #[] #[]] w fun e w' => e = .returned (.bool (tru (sameRs V n U m))) ∧ Below w.heap.size w w' := by
  unfold maxLen at hn hm
  have HV := hide hv
  have HU := hide hu
  have HC := hs.cells
  have HC' := hs'.cells
  clear hs hs' hv hu
  by_cases hl : n = m
  rotate_left
  · have hne : ((n : Int) != (m : Int)) = true := neN (by omega)
    have HT := hide (tru_no (show ¬ sameRs V n U m from fun h => hl h.1))
    clear hl
    go_enter Try.func177, Try.ntmps177
    go_wp2
    go_ret
    exact ⟨retBr HT.out.symm, Below.refl _ _⟩
  subst hl
  have hne : ((n : Int) != (n : Int)) = false := by simp
  go_enter Try.func177, Try.ntmps177
  go_wp2
  go_loopw [7, 8, 9, 17] (fun _ _ _ i wr => ∃ k : Nat, k ≤ n ∧ i = .int .i64 k ∧ Hid (∀ j, j < k → sameR (V j) (U j)) ∧ Below w.heap.size w wr) (fun _ _ _ i _ => n - (intOf i).toNat)
  case atStart => exact ⟨0, Nat.zero_le _, rfl, fun j hj => absurd hj (by omega), Below.refl _ _⟩
  case round =>
    obtain ⟨k, hk, rfl, hgood, hbel⟩ := hrel
    by_cases hlt : k < n
    · have hki : (k : Int) < (n : Int) := by omega
      obtain ⟨b, off, I, ci, rfl, hb, c0, c1, c2, c3, c4, hI⟩ := HC.out k hlt
      obtain ⟨b', off', I', ci', rfl, hb', c0', c1', c2', c3', c4', hI'⟩ := HC'.out k hlt
      have d0 := (hbel.cell (p := ⟨b, off + k * 5, none⟩) hb).trans c0
      have d0' := (hbel.cell (p := ⟨b', off' + k * 5, none⟩) hb').trans c0'
      have d1 := (hbel.cell (p := ⟨b, off + k * 5 + 1, none⟩) hb).trans c1
      have d1' := (hbel.cell (p := ⟨b', off' + k * 5 + 1, none⟩) hb').trans c1'
      have d2 := (hbel.cell (p := ⟨b, off + k * 5 + 2, none⟩) hb).trans c2
      have d2' := (hbel.cell (p := ⟨b', off' + k * 5 + 2, none⟩) hb').trans c2'
      have d3 := (hbel.cell (p := ⟨b, off + k * 5 + 3, none⟩) hb).trans c3
      have d3' := (hbel.cell (p := ⟨b', off' + k * 5 + 3, none⟩) hb').trans c3'
      have d4 := (hbel.cell (p := ⟨b, off + k * 5 + 4, none⟩) hb).trans c4
      have d4' := (hbel.cell (p := ⟨b', off' + k * 5 + 4, none⟩) hb').trans c4'
      have hz := hbel.size
      have hbz : b < wr.heap.size := Nat.lt_of_lt_of_le hb hz
      have hbz' : b' < wr.heap.size := Nat.lt_of_lt_of_le hb' hz
      obtain ⟨W, hW⟩ : ∃ u, u = (wr.alloc (.cells #[.int .i64 (V k).h, .slice I (V k).n ci, .int .i64 (V k).f, .int .i64 (V k).t, .int .i64 (V k).k] 61)).alloc (.cells #[.int .i64 (U k).h, .slice I' (U k).n ci', .int .i64 (U k).f, .int .i64 (U k).t, .int .i64 (U k).k] 61) := ⟨_, rfl⟩
      have HBW : Hid (Below wr.heap.size wr W) := by rw [hW]; exact ((Below.refl wr.heap.size wr).alloc (Nat.le_refl _) _).alloc (by simp) _
      have HF := hide (fnSame_any (V k) (U k) I I' ci ci' W (HV.out k hlt) (HU.out k hlt) ((hI.below hbel).below HBW.out) ((hI'.below hbel).below HBW.out))
      have HBEL := hide (hbel.trans (HBW.out.mono hz))
      have HWW := hide hW
      clear hbel c0 c1 c2 c3 c4 c0' c1' c2' c3' c4' hI hI' hW
      go_wp2_with fail
      rw [← HWW.out]
      clear HWW
      refine HF.out.mono ?_
      rintro e w2 ⟨rfl, hb2⟩
      have HB2 := hide (HBEL.out.trans (hb2.mono HBEL.out.size))
      clear hb2 d0 d1 d2 d3 d4 d0' d1' d2' d3' d4'
      cases ge : tru (sameR (V k) (U k))
      · have HT := hide (tru_no (show ¬ sameRs V n U n from fun h => truN ge (h.2 k hlt)))
        go_wp2
        go_ret
        exact ⟨retBr HT.out.symm, HB2.out⟩
      · have HE := hide (truV ge)
        go_wp2
        clear ge
        go_roundw
        case rel => exact ⟨k + 1, by omega, by go_num, (fun j hj => by
          by_cases hjk : j = k
          · subst hjk; exact HE.out
          · exact hgood.out j (by omega)), HB2.out⟩
        case measure => simp [intOf]; omega
    · obtain rfl : k = n := by omega
      have hki : ¬ (k : Int) < (k : Int) := by omega
      have HT := hide (tru_yes (show sameRs V k U k from ⟨rfl, hgood.out⟩))
      have HBEL := hide hbel
      clear hbel
      go_wp2
      go_ret
      exact ⟨retBr HT.out.symm, HBEL.out⟩
theorem implSameRules_any (A : Option Addr) (n c : Nat) (V : Nat → RV) (B : Option Addr) (m d : Nat) (U : Nat → RV) (w : World) (hn : n ≤ maxLen) (hv : ∀ i, i < n → (V i).n ≤ maxLen) (hs : RS w A n V) (hm : m ≤ maxLen) (hu : ∀ i, i < m → (U i).n ≤ maxLen) (hs' : RS w B m U) :
    Calls Try.prog 105 #[.slice A n c, .slice B m d] w fun e w' => e = .returned (.bool (tru (sameRs V n U m))) ∧ Below w.heap.size w w' := by
  have HE := hide (equalRules_any A n c V B m d U w hn hv hs hm hu hs')
  clear hs hs' hv hu
  go_enter Try.func105, Try.ntmps105
  go_wp2_with fail
  refine HE.out.mono ?_
  rintro e w1 ⟨rfl, hb⟩
  have HB := hide hb
  clear hb
  go_wp2
  go_ret
  exact ⟨rfl, HB.out⟩
end Go.Proofs.Ytjndhcdanpnniaa
