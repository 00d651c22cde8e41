/- ActiveRules, by the program: a range over a function. -/
import Derived.Test.YtpbbedelapnnnaaAr
namespace Go.Proofs.Ytpbbedelapnnnaa
open Go.RowKit Go.Shelf Go.Dues
attribute [local go_sem] Oper.semAt_some
/-- an append to a boxed row of the loop's own: what lies then -/
theorem collectedR {W w2 : World} {n₀ n1 Bp : Nat} {v v' : Value} {k m : Nat} {xs ys : List Value} {tmp : Obj} (hv : Boxed W Bp 42 v) (hrow : W.ownsRow n1 2 1 v k xs) (hn1 : n1 ≤ W.heap.size) (hB : Bp < n1) (hB0 : n₀ ≤ Bp)
    (hown' : w2.ownsRow n1 2 1 v' m ys) (hgrow : (W.alloc tmp).grownBy w2 v.ownBlock) :
    Boxed w2 Bp 42 v ∧ Boxed (w2.setCell ⟨Bp, 0, none⟩ v') Bp 42 v' ∧ (w2.setCell ⟨Bp, 0, none⟩ v').ownsRow n1 2 1 v' m ys ∧ KeepsOthers W (w2.setCell ⟨Bp, 0, none⟩ v') ∧ Below n₀ W (w2.setCell ⟨Bp, 0, none⟩ v') ∧ ∀ i, i < n1 → i ≠ Bp → (w2.setCell ⟨Bp, 0, none⟩ v').heap[i]? = W.heap[i]? := by
  have hlow : ∀ {u : World} {y : Value} {q : Nat} {zs : List Value}, u.ownsRow n1 2 1 y q zs → u.ownsRow n₀ 2 1 y q zs := fun h => by
    refine ⟨h.1, ?_⟩
    rcases h.2 with h0 | ⟨g, cap, cur, h1, h2, h3⟩
    · exact .inl h0
    · exact .inr ⟨g, cap, cur, h1, by omega, h3⟩
  obtain ⟨a1, a2, a3, a4, a5⟩ := hv.appended (by decide) (hlow hrow) (by omega) hB0 (hlow hown') hgrow
  refine ⟨a1, a2, hown'.kept (grownBy_setCell' w2 Bp v') (.inr (a1.not_row (by decide) hown').symm), a4, a5, fun i hi hne => ?_⟩
  refine (Below.heap_setCell w2 ⟨Bp, 0, none⟩ v' i hne).trans ((hgrow.block i (by simp; omega) (fun e => ?_)).trans (Below.heap_alloc W _ i (by omega)))
  have := (hrow.lt i e.symm).1
  omega
theorem own_cap {w : World} {B e n d : Nat} {G : Option Addr} {xs : List Value} (h : w.ownsRow B e 1 (.slice G n d) n xs) : n ≤ d := by
  rcases h.2 with ⟨h0, h1⟩ | ⟨g, cap, cur, h1, _, _, h4, _⟩
  · omega
  · injection h1 with _ _ h1
    omega
/-- one list of n numbers that the call made, if p holds, in room enough; none if not -/
def Gave1c (w w' : World) (e : Ending) (p : Prop) (n : Nat) (z : Nat → Int) : Prop :=
  ∃ G d, e = .returned (.tuple #[.slice G (lenV p n) d, .bool (tru p)]) ∧ OW w' w.heap.size w'.heap.size G (lenV p n) (fun j => .int .i64 (z j)) ∧ Below w.heap.size w w' ∧ lenV p n ≤ d
theorem gave1c_no {w w' : World} {p : Prop} {n : Nat} {z : Nat → Int} (h : ¬ p) (hb : Below w.heap.size w w') : Gave1c w w' (.returned (.tuple #[.slice none 0 0, .bool false])) p n z :=
  ⟨none, 0, ret_slice0 h, .inl (lenV_no h), hb, by rw [lenV_no h]; exact Nat.le_refl _⟩
theorem gave1c_yes {w w' : World} {p : Prop} {k n d : Nat} {z : Nat → Int} {G : Option Addr} (h : p) (hk : k = n) (hd : k ≤ d) (ho : OW w' w.heap.size w'.heap.size G k (fun j => .int .i64 (z j))) (hb : Below w.heap.size w w') : Gave1c w w' (.returned (.tuple #[.slice G k d, .bool true])) p n z :=
  ⟨G, d, ret_slice h hk, by rw [lenV_yes h, ← hk]; exact ho, hb, by rw [lenV_yes h, ← hk]; exact hd⟩
set_option maxRecDepth 100000 in
set_option maxHeartbeats 8000000 in
theorem implActiveC_any (A : Option Addr) (n c : Nat) (V : Nat → RV) (day : Int) (w : World) (hn : n ≤ maxLen) (hv : ∀ i, i < n → (V i).n ≤ maxLen) (hs : RS w A n V) :
    Calls Try.prog 153 #[.slice A n c, .int .i64 day] w fun e w' => Gave1c w w' e (acP V n day) (acL V n day).length (gl (acL V n day)) := by
  obtain ⟨i0, hi, hz0, hz1, hz2⟩ := info_parts Try.info64
  have HR := hide (implRules_any A n c V w hn hv hs)
  obtain ⟨P, hlies⟩ := rs_lies hs
  have HLS := hide hlies
  have HNN := hide hn
  clear hs hv hlies hn
  by_cases hp : rulesP V n
  rotate_left
  · have HT := hide (tru_no hp)
    have HH := hide (show ¬ acP V n day from fun h => hp h.1)
    clear hp
    go_enter Try.func153, Try.ntmps153
    go_wp2_with fail
    refine HR.out.mono ?_
    rw [HT.out]
    rintro e w1 ⟨rfl, hb⟩
    have HB := hide hb
    clear hb
    go_wp2_with (go_at_call 210; refine (implRDay_any _ _).mono ?_; rintro e w' ⟨rfl, rfl⟩)
    go_ret2
    exact gave1c_no HH.out HB.out
  have HT := hide (tru_yes hp)
  have HP := hide hp
  have n24 := hp.1
  clear hp
  cases gd : inB day 0 100000
  · have HH := hide (show ¬ acP V n day from fun h => by rw [inB_yes h.2] at gd; cases gd)
    go_enter Try.func153, Try.ntmps153
    go_wp2_with fail
    refine HR.out.mono ?_
    rw [HT.out]
    rintro e w1 ⟨rfl, hb⟩
    have HB := hide hb
    clear hb
    go_wp2_with (go_at_call 210; refine (implRDay_any _ _).mono ?_; rintro e w' ⟨rfl, rfl⟩)
    go_ret2
    exact gave1c_no HH.out HB.out
  have HPP := hide (show acP V n day from ⟨HP.out, inB_iff.1 gd⟩)
  refine (callsIn_wide (n := 4)).1 ?_
  refine callsIn_of_wp_marks Try.func153 rfl trivial ?_ rfl
  simp only [Try.ntmps153, List.size_toArray, List.length_cons, List.length_nil, Nat.reduceAdd, Nat.reduceSub, Array.replicate_succ, Array.replicate_zero, List.push_toArray, List.append_toArray, List.nil_append, List.cons_append]
  gi_wp2_with (first | (refine ⟨trivial, ?_⟩; gi_at_call 157; refine (callsIn_wide.2 HR.out).mono ?_; rw [HT.out]; rintro e w1 ⟨rfl, hb1⟩; have HB1 := hide hb1; clear hb1) | (refine ⟨trivial, ?_⟩; gi_at_call 210; refine (callsIn_wide.2 (implRDay_any _ _)).mono ?_; rw [gd]; rintro e w' ⟨rfl, rfl⟩) | (refine ⟨trivial, ?_⟩; gi_at_call 211; refine (callsIn_wide.2 (implIter_any _ _ _ _ _)).mono ?_; rintro e w' ⟨rfl, rfl⟩))
  clear gd
  obtain ⟨Bp, hBp⟩ : ∃ Bp, w1.heap.size = Bp := ⟨_, rfl⟩
  obtain ⟨W0, hW0⟩ : ∃ u : World, u = ((w1.alloc (.cells #[.slice none 0 0] 42)).alloc (.cells #[.slice A n c] 82)).alloc (.cells #[.int .i64 day] 2) := ⟨_, rfl⟩
  have hzz : w.heap.size ≤ Bp := by have := HB1.out.size; omega
  have zW : W0.heap.size = Bp + 1 + 2 := by rw [hW0, ← hBp]; simp
  have gP : Boxed W0 Bp 42 (.slice none 0 0) := by rw [hW0, ← hBp]; exact ((Boxed.new w1 42 _).alloc _).alloc _
  have g1 : Boxed W0 (Bp + 1) 82 (.slice A n c) := by rw [hW0, ← hBp]; have := Boxed.new (w1.alloc (.cells #[.slice none 0 0] 42)) 82 (.slice A n c); rw [World.size_alloc] at this; exact this.alloc _
  have g2 : Boxed W0 (Bp + 1 + 1) 2 (.int .i64 day) := by rw [hW0, ← hBp]; have := Boxed.new ((w1.alloc (.cells #[.slice none 0 0] 42)).alloc (.cells #[.slice A n c] 82)) 2 (.int .i64 day); rw [World.size_alloc, World.size_alloc] at this; exact this
  have hBW : Below w.heap.size w W0 := by rw [hW0]; exact ((HB1.out.alloc HB1.out.size _).alloc (by simp; omega) _).alloc (by simp; omega) _
  rw [← hW0, hBp]
  clear hW0 hBp HB1 HR
  have hstop := active_stops (4 - 1) (by omega) (Bp + 1) w.heap.size n c A V P day HNN.out W0 (by omega) (by omega) g1 g2 (HLS.out.below hBW)
  refine wpIn_rangeFunc_ownG rfl (by omega) (gf := 253) (lb := #[.pointer (some ⟨Bp + 1, 0, none⟩), .pointer (some ⟨Bp + 1 + 1, 0, none⟩)]) rfl trivial (enters_of Try.func253 (by kernel_rfl) rfl)
    hstop kpR_t (kpR_b (by omega) (by omega)) (Below.refl _ _) (fun _ => rfl)
    (fun (pre : List Nat) W => (∃ v, Boxed W Bp 42 v ∧ W.ownsRow W0.heap.size 2 1 v pre.length ((il pre).map (Value.int .i64)) ∧ True) ∧ Below w.heap.size w W ∧ W0.heap.size ≤ W.heap.size)
    (fun _ (_ : List Nat) _ => False)
    (OwnFrom.and (Own.from (holdsRow_own W0.heap.size Bp 42 2 1 (fun (pre : List Nat) => pre.length) (fun pre => (il pre).map (Value.int .i64)) (fun _ _ => True)) _) (OwnFrom.and (ownFrom_below (by omega) (by omega)) (fun _ _ _ _ hs hg _ => Nat.le_trans hs hg.size)))
    (fun _ => ownFrom_pure _ (fun _ => False))
    ⟨⟨_, gP, World.ownsRow_nil _ _ _ _, trivial⟩, hBW, Nat.le_refl _⟩
    (fun y => { tmps := #[.slice A n c, .int .i64 day, undef, undef, .slice none 0 0, .bool false, .pointer (some ⟨Bp, 0, none⟩), .int .i64 (y : Nat), .slice A n c, .bool true, .bool false, .bool false, .int .i64 day, .bool true, .bool false, .bool false, .slice A n c, .int .i64 day, .func (.func 253) #[] #[.pointer (some ⟨Bp + 1, 0, none⟩), .pointer (some ⟨Bp + 1 + 1, 0, none⟩)], .int .i64 (y : Nat), .agg #[.int .i64 (V y).h, .slice (P y).A (V y).n (P y).c, .int .i64 (V y).f, .int .i64 (V y).t, .int .i64 (V y).k], undef, undef, undef, undef, undef], defers := [] }) ?assign ?body ?done ?stop
  case assign =>
    intro l y W K hK
    gi_wp2
    exact hK
  case body =>
    clear g1 g2 gP hstop
    rintro l pre y W ⟨⟨v, hv, hrow, -⟩, hB, hsW⟩ hlt
    have HB := hide hB
    have HROW := hide hrow
    have HV := hide hv
    have hc := hv.cell
    clear hB
    gi_wp2_with (gi_at_builtin; refine wpListIn_append_own _ rfl _ _ 42 rfl W0.heap.size 2 i0 (.int .i64 0) 1 8 Try.underlying42 hi hz0 hz1 hz2 rfl (by decide) _ _ _ rfl (hrow.alloc _) ⟨W.heap.size, 0, none⟩ 1 1 [.int .i64 (y : Nat)] rfl rfl (cell_one_new _ _ _) (by simp [Value.oneCell']) (by unfold maxLen; omega) (by omega) (by simp; omega) ?_; intro v' w2 hown' hgrow _; obtain ⟨g', cap', rfl⟩ := ownsRow_succ hown'; obtain ⟨hv1, hv2, hr2, hk2, hb2, hkeep⟩ := collectedR hv hrow hsW (show Bp < W0.heap.size by omega) (show w.heap.size ≤ Bp by omega) hown' hgrow; have hc1 := hv1.cell; have hf1 := hv1.frozen)
    have hkB : KpR w.heap.size (Bp + 1) W (w2.setCell ⟨Bp, 0, none⟩ (.slice (some ⟨g', 0, none⟩) (pre.length + 1) cap')) := ⟨hb2, fun i h1 h2 => hkeep i (by omega) (by omega)⟩
    exact ⟨hk2.from _, hkB, ⟨_, hv2, by rw [List.length_append, il_snoc, List.map_append]; exact hr2, trivial⟩, HB.out.trans hb2, by have := hk2.size; omega⟩
  case done =>
    clear g1 g2 gP hstop
    rintro D ys W hD rfl ⟨⟨v, hv, hrow, -⟩, hB, hsW⟩ hK
    obtain ⟨G, d, rfl⟩ := own_shape hrow
    have hc := hv.cell
    have HK' := hide hK
    have HO := hide hrow
    have HB := hide hB
    clear hB hK
    gi_wp2
    refine ⟨by simp, .inl ⟨_, _, rfl, run_takeDeferred HK'.out, ?_⟩⟩
    have hr2 := ownsRow_putObj HO.out (.deferred none) HK'.out rfl
    have hr3 : (W.putObj D (.deferred none)).ownsRow W0.heap.size 2 1 (.slice G (acL V n day).length d) (acL V n day).length ((acL V n day).map (Value.int .i64)) := by unfold acL; rw [il_len]; exact hr2
    refine ⟨.tuple #[.slice G (flt (actB V day) n).length d, .bool true], ?_, gave1c_yes (k := (flt (actB V day) n).length) HPP.out (by unfold acL; rw [il_len]) (own_cap hr2) (by have := (own_ints hr3).wide (lo' := w.heap.size) (by omega) (Nat.le_refl _); unfold acL at this ⊢; rw [il_len] at this; exact this) (HB.out.trans (belowK_b (w := w) (Nat.le_refl _) _ D _ _ (by omega) HK'.out rfl rfl))⟩
    simp [results, Try.f153, go_sem]
  case stop =>
    rintro D cd pre W hD _ h _
    exact h.elim
theorem implActiveRules_any (A : Option Addr) (n c : Nat) (V : Nat → RV) (day : Int) (w : World) (hn : n ≤ maxLen) (hv : ∀ i, i < n → (V i).n ≤ maxLen) (hs : RS w A n V) :
    Calls Try.prog 153 #[.slice A n c, .int .i64 day] w fun e w' => Gave1 w w' e (acP V n day) (acL V n day).length (gl (acL V n day)) :=
  (implActiveC_any A n c V day w hn hv hs).mono fun _ _ ⟨G, d, h1, h2, h3, _⟩ => ⟨G, d, h1, h2, h3⟩
end Go.Proofs.Ytpbbedelapnnnaa
