/- JoinScales, plain and by the program. -/
import Derived.Test.YtpbbedelapnnnaaGv
import Derived.Test.YtpbbedelapnnnaaGt
import Derived.Test.YtpbbedelapnnnaaRt
import Derived.Test.YtpbbedelapnnnaaSrt
import Derived.Test.YtpbbedelapnnnaaMs
import Derived.Deep.RegionHeld3
namespace Go.Proofs.Ytpbbedelapnnnaa
open Go.RowKit Go.Dues
def joZ (x : Nat → Int) (n : Nat) (y : Nat → Int) (m : Nat) : List Int := (List.range n).map x ++ (List.range m).map y
/-- the breaks of both, each once, rising -/
def joL (x : Nat → Int) (n : Nat) (y : Nat → Int) (m : Nat) : List Int := Go.Lib.compact ((joZ x n y m).mergeSort fun a b => decide (a ≤ b))
def joV (x : Nat → Int) (n : Nat) (y : Nat → Int) (m : Nat) (j : Nat) : Int := (joL x n y m).getD j 0
def joR (x x' : Nat → Int) (n : Nat) (y y' : Nat → Int) (m : Nat) (j : Nat) : Int := rateK x x' (joV x n y m j) n + rateK y y' (joV x n y m j) m
def joN (x : Nat → Int) (n : Nat) (y : Nat → Int) (m : Nat) : Nat := (joL x n y m).length
def joP (x x' : Nat → Int) (n n' : Nat) (y y' : Nat → Int) (m m' : Nat) : Prop := Val x x' n n' ∧ Val y y' m m' ∧ Val (joV x n y m) (joR x x' n y y' m) (joN x n y m) (joN x n y m)
theorem joL_rise (x : Nat → Int) (n : Nat) (y : Nat → Int) (m : Nat) : Rise (joL x n y m) := (sc_rise _).1
theorem joL_mem (x : Nat → Int) (n : Nat) (y : Nat → Int) (m : Nat) (d : Int) : d ∈ joL x n y m ↔ (∃ j, j < n ∧ d = x j) ∨ ∃ j, j < m ∧ d = y j := by
  rw [show d ∈ joL x n y m ↔ _ from (sc_rise _).2 d]
  unfold joZ
  rw [List.mem_append, List.mem_map, List.mem_map]
  constructor
  · rintro (⟨j, hj, e⟩ | ⟨j, hj, e⟩)
    · exact .inl ⟨j, List.mem_range.1 hj, e.symm⟩
    · exact .inr ⟨j, List.mem_range.1 hj, e.symm⟩
  · rintro (⟨j, hj, e⟩ | ⟨j, hj, e⟩)
    · exact .inl ⟨j, List.mem_range.2 hj, e.symm⟩
    · exact .inr ⟨j, List.mem_range.2 hj, e.symm⟩
theorem joN_le (x : Nat → Int) (n : Nat) (y : Nat → Int) (m : Nat) : joN x n y m ≤ n + m := by
  refine Nat.le_trans (Go.Lib.compact_length_le _) ?_
  rw [List.length_mergeSort]
  unfold joZ
  simp
theorem joV_at {x : Nat → Int} {n : Nat} {y : Nat → Int} {m : Nat} (j : Nat) (hj : j < joN x n y m) : ((joL x n y m).map (Value.int .i64))[j]? = some (.int .i64 (joV x n y m j)) := by
  rw [List.getElem?_map]
  unfold joV
  rw [List.getD_eq_getElem?_getD, List.getElem?_eq_getElem hj]
  rfl
/-- what has these members, rising, is it -/
theorem joL_eq {x : Nat → Int} {n : Nat} {y : Nat → Int} {m : Nat} {L : List Int} (h : Rise L) (hm : ∀ d, d ∈ L ↔ (∃ j, j < n ∧ d = x j) ∨ ∃ j, j < m ∧ d = y j) : L = joL x n y m :=
  rise_unique h (joL_rise x n y m) fun d => by rw [hm, joL_mem]
set_option maxRecDepth 100000 in
set_option maxHeartbeats 4000000 in
theorem fn_join (Pa Pb : Nat) (A A' : Option Addr) (n c n' c' : Nat) (x x' : Nat → Int) (B B' : Option Addr) (m d m' d' : Nat) (y y' : Nat → Int) (v : Int) (w : World)
    (ha : w.heap[Pa]? = some (.cells #[.slice A n c, .slice A' n' c'] 46)) (hb : w.heap[Pb]? = some (.cells #[.slice B m d, .slice B' m' d'] 46))
    (hs : SL w A n (fun j => .int .i64 (x j))) (hs' : SL w A' n' (fun j => .int .i64 (x' j))) (ht : SL w B m (fun j => .int .i64 (y j))) (ht' : SL w B' m' (fun j => .int .i64 (y' j))) (hv : Val x x' n n') (hv' : Val y y' m m') :
    Calls Try.prog 110 #[.int .i64 v, .pointer (some ⟨Pa, 0, none⟩), .pointer (some ⟨Pb, 0, none⟩)] w fun e w' => e = .returned (.int .i64 (rateK x x' v n + rateK y y' v m)) ∧ Below w.heap.size w w' := by
  have la := (Array.getElem?_eq_some_iff.1 ha).1
  have lb := (Array.getElem?_eq_some_iff.1 hb).1
  have b1 := rateK_bd hv (c := v) n (Nat.le_refl _)
  have b2 := rateK_bd hv' (c := v) m (Nat.le_refl _)
  have HA := hide ha
  have HB := hide hb
  have HS := hide hs
  have HS' := hide hs'
  have HT := hide ht
  have HT' := hide ht'
  have HSq := hide (show SL w.drew A n (fun j => .int .i64 (x j)) from hs)
  have HS'q := hide (show SL w.drew A' n' (fun j => .int .i64 (x' j)) from hs')
  have HTq := hide (show SL w.drew B m (fun j => .int .i64 (y j)) from ht)
  have HT'q := hide (show SL w.drew B' m' (fun j => .int .i64 (y' j)) from ht')
  have HV := hide hv
  have HV' := hide hv'
  obtain ⟨R1, hR1⟩ : ∃ q, rateK x x' v n = q := ⟨_, rfl⟩
  obtain ⟨R2, hR2⟩ : ∃ q, rateK y y' v m = q := ⟨_, rfl⟩
  rw [hR1] at b1 ⊢
  rw [hR2] at b2 ⊢
  have HR1 := hide hR1
  have HR2 := hide hR2
  have KK := hide (show ∀ u, Below w.heap.size w u → (u.cell? ⟨Pa, 0, none⟩ = some (.slice A n c) ∧ u.cell? ⟨Pa, 1, none⟩ = some (.slice A' n' c')) ∧ u.cell? ⟨Pb, 0, none⟩ = some (.slice B m d) ∧ u.cell? ⟨Pb, 1, none⟩ = some (.slice B' m' d') from fun u hu => by
    have g := blk_below hu la HA.out
    have h := blk_below hu lb HB.out
    have g0 := Joins.cell_of_block g 0
    have g1 := Joins.cell_of_block g 1
    have h0 := Joins.cell_of_block h 0
    have h1 := Joins.cell_of_block h 1
    simp at g0 g1 h0 h1
    exact ⟨⟨g0, g1⟩, h0, h1⟩)
  have HB0 := hide (Below.refl w.heap.size w)
  have TK0 := True.intro
  obtain ⟨⟨k0, k1⟩, k2, k3⟩ := KK.out w HB0.out
  clear ha hb hs hs' ht ht' hv hv' hR1 hR2
  go_enter Try.func110, Try.ntmps110
  go_wp2_with fail
  obtain ⟨b10, b11⟩ := b1
  obtain ⟨b20, b21⟩ := b2
  have HWR := hide (show IntKind.i64.wrap (R1 + R2) = R1 + R2 from Go.IntWalk.i64_in _ (by omega))
  have HCA := fun (u : World) (hu : Below w.heap.size w u) => hide (implAt_any A A' n c n' c' x x' v u (HS.out.below hu) (HS'.out.below hu) HV.out)
  have HCB := fun (u : World) (hu : Below w.heap.size w u) => hide (implAt_any B B' m d m' d' y y' v u (HT.out.below hu) (HT'.out.below hu) HV'.out)
  rw [HR1.out] at HCA
  rw [HR2.out] at HCB
  have HCAd := HCA w.drew ⟨rfl, rfl, rfl, Nat.le_refl _, fun _ _ => rfl⟩
  have HCBd := HCB w.drew ⟨rfl, rfl, rfl, Nat.le_refl _, fun _ _ => rfl⟩
  go_region_with (first
    | (go_at_call 111; (first | with_reducible refine HCAd.out.mono ?_ | with_reducible refine (HCA _ HBt.out).out.mono ?_); rintro e v1 ⟨rfl, hb⟩; have HBs : Hid (Below w.heap.size w v1) := (by first | exact ⟨hb.os, hb.tape, hb.output, hb.size, hb.block⟩ | exact HBt.out.trans (Below.mono ⟨hb.os, hb.tape, hb.output, hb.size, hb.block⟩ HBt.out.size)); obtain ⟨⟨m0, m1⟩, m2, m3⟩ := KK.out _ HBs.out; clear hb)
    | (go_at_call 111; (first | with_reducible refine HCBd.out.mono ?_ | with_reducible refine (HCB _ HBs.out).out.mono ?_); rintro e v2 ⟨rfl, hb⟩; have HBt : Hid (Below w.heap.size w v2) := (by first | exact ⟨hb.os, hb.tape, hb.output, hb.size, hb.block⟩ | exact HBs.out.trans (Below.mono ⟨hb.os, hb.tape, hb.output, hb.size, hb.block⟩ HBs.out.size)); obtain ⟨⟨l0, l1⟩, l2, l3⟩ := KK.out _ HBt.out; clear hb))
  all_goals
    go_wp2
    go_ret
    refine ⟨by show Ending.returned (.int .i64 (IntKind.i64.wrap (R1 + R2))) = _; rw [HWR.out], ?_⟩
    first | exact HBs.out | exact HBt.out
theorem _root_.Go.World.ownsRow.below9 {w w' : World} {B e m n : Nat} {v : Value} {xs : List Value} (h : w.ownsRow B e m v n xs) (hb : Below w.heap.size w w') : w'.ownsRow B e m v n xs := by
  refine ⟨h.1, ?_⟩
  rcases h.2 with h | ⟨g, cap, cur, h1, h2, h3, h4⟩
  · exact .inl h
  · exact .inr ⟨g, cap, cur, h1, h2, blk_below hb (Array.getElem?_eq_some_iff.1 h3).1 h3, h4⟩
set_option maxHeartbeats 4000000 in
theorem each_join (Pa Pb : Nat) (A A' : Option Addr) (n c n' c' : Nat) (x x' : Nat → Int) (B B' : Option Addr) (m d m' d' : Nat) (y y' : Nat → Int) (E : Option Addr) (N D : Nat) (v : Nat → Int) (w : World) (hN : N ≤ 1048576)
    (ha : w.heap[Pa]? = some (.cells #[.slice A n c, .slice A' n' c'] 46)) (hb : w.heap[Pb]? = some (.cells #[.slice B m d, .slice B' m' d'] 46))
    (hs : SL w A n (fun j => .int .i64 (x j))) (hs' : SL w A' n' (fun j => .int .i64 (x' j))) (ht : SL w B m (fun j => .int .i64 (y j))) (ht' : SL w B' m' (fun j => .int .i64 (y' j))) (hv : Val x x' n n') (hv' : Val y y' m m') (he : SL w E N (fun j => .int .i64 (v j))) :
    Calls Try.prog 109 #[.slice E N D, .func (Fn.func 110) #[] #[.pointer (some ⟨Pa, 0, none⟩), .pointer (some ⟨Pb, 0, none⟩)]] w fun e w' => ∃ G d, e = .returned (.slice G N d) ∧ OW w' w.heap.size w'.heap.size G N (fun j => .int .i64 (rateK x x' (v j) n + rateK y y' (v j) m)) ∧ Below w.heap.size w w' := by
  obtain ⟨i0, hi, hz0, hz1, hz2⟩ := info_parts Try.infoI64
  have HC := cells_one he
  have la := (Array.getElem?_eq_some_iff.1 ha).1
  have lb := (Array.getElem?_eq_some_iff.1 hb).1
  have HF := hide (show ∀ (u : World) (k : Nat), Below w.heap.size w u → Calls Try.prog 110 #[.int .i64 (v k), .pointer (some ⟨Pa, 0, none⟩), .pointer (some ⟨Pb, 0, none⟩)] u fun e w' => e = .returned (.int .i64 (rateK x x' (v k) n + rateK y y' (v k) m)) ∧ Below u.heap.size u w' from fun u k hu => fn_join Pa Pb A A' n c n' c' x x' B B' m d m' d' y y' (v k) u (blk_below hu la ha) (blk_below hu lb hb) (hs.below hu) (hs'.below hu) (ht.below hu) (ht'.below hu) hv hv')
  obtain ⟨f, hf⟩ : ∃ f : Nat → Int, f = fun j => rateK x x' (v j) n + rateK y y' (v j) m := ⟨_, rfl⟩
  have hfk : ∀ k, rateK x x' (v k) n + rateK y y' (v k) m = f k := fun k => by rw [hf]
  simp only [hfk] at HF ⊢
  clear hs hs' ht ht' ha hb he hv hv' hf hfk
  go_enter Try.func109, Try.ntmps109
  go_wp2_with (at_make; refine wpList_make_own _ rfl _ _ 42 rfl w.heap.size 2 i0 (.int .i64 0) 1 Try.underlying42 hi hz0 hz1 _ _ _ N rfl rfl rfl (by rw [hz2]; omega) (by unfold maxLen; omega) (Nat.le_refl _) ?_; intro w2 hown0 hgrow0)
  have HBG := hide ((Below.refl w.heap.size w).grown hgrow0 (Nat.le_refl _) (fun k h => by cases h))
  have HO := hide hown0
  clear hown0 hgrow0
  go_loopw [5, 7, 13] (fun v' _ i wr => ∃ (k : Nat) (xs : List Value), k ≤ N ∧ i = .int .i64 k ∧ wr.ownsRow w.heap.size 2 1 v' k xs ∧ Hid (∀ j, j < k → xs[j]? = some (.int .i64 (f j))) ∧ Below w.heap.size w wr) (fun _ _ i _ => N - (intOf i).toNat)
  case atStart => exact ⟨0, [], Nat.zero_le _, rfl, HO.out, fun j hj => absurd hj (by omega), HBG.out⟩
  case round =>
    obtain ⟨k, xs, hk, rfl, hown, hxs, hbel⟩ := hrel
    by_cases hlt : k < N
    · obtain ⟨b, off, rfl, hb, hc⟩ := HC.out k hlt
      have hc2 := (hbel.cell (p := ⟨b, off + k, none⟩) hb).trans hc
      have hsz := hbel.size
      have HB1 := hide hbel
      have HOW := hide hown
      clear hc hbel hown
      go_wp2_with fail
      refine (HF.out _ k HB1.out).mono ?_
      rintro e w3 ⟨rfl, hb3⟩
      have HB3 := hide (HB1.out.trans (hb3.mono hsz))
      have hown := HOW.out.below9 hb3
      have hs3 := hb3.size
      clear hb3 hc2
      go_wp2_with (at_builtin; refine wpList_append_own _ rfl _ _ 42 rfl w.heap.size 2 i0 (.int .i64 0) 1 8 Try.underlying42 hi hz0 hz1 hz2 rfl (by decide) _ _ _ rfl (by exact (hown.alloc _)) ⟨w3.heap.size, 0, none⟩ 1 1 [.int .i64 (f k)] rfl rfl (cell_one_new _ _ _) (by intro u hu; simp at hu; subst hu; rfl) (by unfold maxLen; omega) (by omega) (by simp; omega) ?_)
      intro v' w4 hown' hgrow _
      have HBN := hide (((HB3.out).alloc (by omega) (.cells #[.int .i64 (f k)] 2)).grown hgrow (by simp; omega) (fun j hj => (hown.lt j hj).1))
      have HON := hide hown'
      have HL := hide (show xs.length = k by have := hown.1; omega)
      clear hgrow hown' hown
      go_wp2
      go_roundw
      case rel => exact ⟨k + 1, _, by omega, by go_num, HON.out, ws_step HL.out hxs.out rfl, HBN.out⟩
      case measure => simp [intOf]; omega
    · obtain ⟨G, d, rfl⟩ := own_shape hown
      have HON := hide hown
      have HBN := hide hbel
      clear hown hbel
      go_wp2
      go_ret
      obtain rfl : k = N := by omega
      exact ⟨G, d, rfl, OW.of_owns HON.out hxs.out, HBN.out⟩
set_option maxRecDepth 100000 in
set_option maxHeartbeats 8000000 in
theorem implJoin_any (A A' : Option Addr) (n c n' c' : Nat) (x x' : Nat → Int) (B B' : Option Addr) (m d m' d' : Nat) (y y' : Nat → Int) (w : World) (hn : n ≤ maxLen) (hn' : n' ≤ maxLen) (hs : SL w A n (fun j => .int .i64 (x j))) (hs' : SL w A' n' (fun j => .int .i64 (x' j))) (hm : m ≤ maxLen) (hm' : m' ≤ maxLen) (ht : SL w B m (fun j => .int .i64 (y j))) (ht' : SL w B' m' (fun j => .int .i64 (y' j))) :
    Calls Try.prog 31 #[.agg #[.slice A n c, .slice A' n' c'], .agg #[.slice B m d, .slice B' m' d']] w fun e w' => GaveT w w' e (joP x x' n n' y y' m m') (joN x n y m) (joN x n y m) (joV x n y m) (joR x x' n y y' m) := by
  obtain ⟨w0, hw0⟩ : ∃ u, u = ((w.alloc (.cells #[.slice A n c, .slice A' n' c'] 46)).alloc (.cells #[.slice B m d, .slice B' m' d'] 46)).alloc (.cells #[.slice none 0 0, .slice none 0 0] 46) := ⟨_, rfl⟩
  have HB0 : Hid (Below w.heap.size w w0) := by rw [hw0]; exact (((Below.refl w.heap.size w).alloc (Nat.le_refl _) _).alloc (by simp) _).alloc (by simp; omega) _
  have HX0 : Hid (w0.heap[w.heap.size]? = some (.cells #[.slice A n c, .slice A' n' c'] 46)) := by rw [hw0]; exact (blocks3 w _ _ _).1
  have HY0 : Hid (w0.heap[w.heap.size + 1]? = some (.cells #[.slice B m d, .slice B' m' d'] 46)) := by rw [hw0]; exact (blocks3 w _ _ _).2.1
  have HR0 : Hid (w0.heap[w.heap.size + 1 + 1]? = some (.cells #[.slice none 0 0, .slice none 0 0] 46)) := by rw [hw0]; exact (blocks3 w _ _ _).2.2
  have hz0 : w.heap.size + 3 ≤ w0.heap.size := by rw [hw0]; simp
  have HS := hide (hs.below HB0.out)
  have HS' := hide (hs'.below HB0.out)
  have HT := hide (ht.below HB0.out)
  have HT' := hide (ht'.below HB0.out)
  have HIA := hide (implValid_any A A' n c n' c' x x' w0 hn hn' HS.out HS'.out)
  have HIB := fun (u : World) (hu : Below w0.heap.size w0 u) => hide (implValid_any B B' m d m' d' y y' u hm hm' (HT.out.below hu) (HT'.out.below hu))
  clear hs hs' ht ht'
  have HW := hide hw0
  have k0 := Joins.cell_of_block HX0.out 0
  have k1 := Joins.cell_of_block HX0.out 1
  simp at k0 k1
  have i0 := k0
  have i1 := k1
  rw [hw0] at i0 i1
  clear hw0
  by_cases hv : Val x x' n n'
  rotate_left
  · have HM := hide (show ¬ joP x x' n n' y y' m m' from fun h => hv h.1)
    have HTR := hide (tru_no hv)
    clear hv
    go_enter Try.func31, Try.ntmps31
    go_wp2_with fail
    rw [← HW.out]
    clear HW i0 i1
    refine HIA.out.mono ?_
    rw [HTR.out]
    rintro e w1 ⟨rfl, hb⟩
    have hz1 := hb.size
    have HR1 := hide (blk_below hb (by omega) HR0.out)
    have HB1 := hide (HB0.out.trans (hb.mono HB0.out.size))
    clear hb k0 k1
    have q0 := Joins.cell_of_block HR1.out 0
    have q1 := Joins.cell_of_block HR1.out 1
    simp at q0 q1
    have f0 := Joins.unfrozen_of_block HR1.out 0
    have f1 := Joins.unfrozen_of_block HR1.out 1
    (try simp at f0 f1)
    go_wp2
    have R := Joins.block_setCell (Joins.block_setCell HR1.out (i := 0) (.slice none 0 0)) (i := 1) (.slice none 0 0)
    have r0 := Joins.cell_of_block R 0
    have r1 := Joins.cell_of_block R 1
    simp at r0 r1
    refine bodyPost_ret (v := .tuple #[.agg #[.slice none 0 0, .slice none 0 0], .bool false]) (by simp [results, Try.results31, go_sem, r0, r1]) rfl (gavet_no HM.out ?_)
    exact (HB1.out.setCell (by simp; omega) _).setCell (by simp; omega) _
  have HV := hide hv
  have HTR := hide (tru_yes hv)
  have hn1 := hv.n1
  have hn8 := hv.n8
  clear hv
  go_enter Try.func31, Try.ntmps31
  go_wp2_with fail
  rw [← HW.out]
  clear HW i0 i1
  refine HIA.out.mono ?_
  rw [HTR.out]
  rintro e w1 ⟨rfl, hb⟩
  have hz1 := hb.size
  have HX1 := hide (blk_below hb (by omega) HX0.out)
  have HY1 := hide (blk_below hb (by omega) HY0.out)
  have HR1 := hide (blk_below hb (by omega) HR0.out)
  have HB1 := hide (HB0.out.trans (hb.mono HB0.out.size))
  have HB01 := hide hb
  clear hb k0 k1
  have l0 := Joins.cell_of_block HY1.out 0
  have l1 := Joins.cell_of_block HY1.out 1
  simp at l0 l1
  go_wp2_with fail
  refine (HIB w1 HB01.out).out.mono ?_
  rintro e w2 ⟨rfl, hb⟩
  have hz2 := hb.size
  have HX2 := hide (blk_below hb (by omega) HX1.out)
  have HY2 := hide (blk_below hb (by omega) HY1.out)
  have HR2 := hide (blk_below hb (by omega) HR1.out)
  have HB2 := hide (HB1.out.trans (hb.mono HB1.out.size))
  have HB02 := hide (HB01.out.trans (hb.mono HB01.out.size))
  clear hb l0 l1
  by_cases hv : Val y y' m m'
  rotate_left
  · have HM := hide (show ¬ joP x x' n n' y y' m m' from fun h => hv h.2.1)
    rw [tru_no hv]
    clear hv
    have q0 := Joins.cell_of_block HR2.out 0
    have q1 := Joins.cell_of_block HR2.out 1
    simp at q0 q1
    have f0 := Joins.unfrozen_of_block HR2.out 0
    have f1 := Joins.unfrozen_of_block HR2.out 1
    (try simp at f0 f1)
    go_wp2
    have R := Joins.block_setCell (Joins.block_setCell HR2.out (i := 0) (.slice none 0 0)) (i := 1) (.slice none 0 0)
    have r0 := Joins.cell_of_block R 0
    have r1 := Joins.cell_of_block R 1
    simp at r0 r1
    refine bodyPost_ret (v := .tuple #[.agg #[.slice none 0 0, .slice none 0 0], .bool false]) (by simp [results, Try.results31, go_sem, r0, r1]) rfl (gavet_no HM.out ?_)
    exact (HB2.out.setCell (by simp; omega) _).setCell (by simp; omega) _
  rw [tru_yes hv]
  have HV' := hide hv
  have hm1 := hv.n1
  have hm8 := hv.n8
  clear hv
  have k0 := Joins.cell_of_block HX2.out 0
  have k1 := Joins.cell_of_block HX2.out 1
  simp at k0 k1
  have l0 := Joins.cell_of_block HY2.out 0
  have l1 := Joins.cell_of_block HY2.out 1
  simp at l0 l1
  obtain ⟨V, hV⟩ : ∃ u, u = w2.alloc (.cells #[.slice A n c, .slice B m d] 42) := ⟨_, rfl⟩
  have hbv : Below w2.heap.size w2 V := by rw [hV]; exact (Below.refl _ _).alloc (Nat.le_refl _) _
  have HP : Hid (V.heap[w2.heap.size]? = some (.cells #[.slice A n c, .slice B m d] 42)) := by rw [hV]; exact blocks1 w2 _
  have hzV : w2.heap.size + 1 ≤ V.heap.size := by rw [hV]; simp
  have HBV := hide (HB2.out.trans (hbv.mono HB2.out.size))
  have HBV0 := hide (HB02.out.trans (hbv.mono HB02.out.size))
  have HXV := hide (blk_below hbv (by omega) HX2.out)
  have HYV := hide (blk_below hbv (by omega) HY2.out)
  have HRV := hide (blk_below hbv (by omega) HR2.out)
  have HVV := hide hV
  clear hV hbv
  go_wp2_with fail
  rw [← HVV.out]
  clear HVV k0 k1 l0 l1
  refine (concatI_any w2.heap.size A n c x B m d y V HP.out hn1 (by omega) (HS.out.below HBV0.out) hm1 (by omega) (HT.out.below HBV0.out)).mono ?_
  rintro e w3 ⟨G, D, rfl, hown, hb3⟩
  obtain ⟨g, hG, hgB⟩ : ∃ g, G = some ⟨g, 0, none⟩ ∧ V.heap.size ≤ g := by
    rcases hown.2 with ⟨h0, h1⟩ | ⟨g, cap, cur, h1, h2, _⟩
    · omega
    · injection h1 with h1
      exact ⟨g, h1, h2⟩
  subst hG
  have HO3 : Hid (w3.ownsRow V.heap.size 2 1 (.slice (some ⟨g, 0, none⟩) (n + m) D) (n + m) ((joZ x n y m).map (Value.int .i64))) := by
    have e : (joZ x n y m).map (Value.int .i64) = ((List.range n).map fun j => Value.int .i64 (x j)) ++ ((List.range m).map fun j => Value.int .i64 (y j)) := by unfold joZ; rw [List.map_append, List.map_map, List.map_map]; rfl
    rw [e]
    exact hown
  have HB3 := hide hb3
  have hz3 := hb3.size
  clear hown hb3 HP
  go_wp2_with fail
  refine (sortI_any g D (n + m) (joZ x n y m) w3 V.heap.size (by unfold joZ; simp) (by omega) HO3.out).mono ?_
  rintro e w4 ⟨rfl, hown, hgrow⟩
  have HB4 := hide (Below.grown HB3.out hgrow HB3.out.size (fun j hj => by injection hj with hj; omega))
  have HO4 := hide hown
  clear hown hgrow HO3
  go_wp2_with fail
  refine (compactI_any g D (n + m) _ w4 V.heap.size (by rw [List.length_mergeSort]; unfold joZ; simp) (by omega) HO4.out).mono ?_
  rintro e w5 ⟨rfl, hown, hgrow⟩
  have HB5 := hide (Below.grown HB4.out hgrow HB4.out.size (fun j hj => by injection hj with hj; omega))
  have HO5 := hide (show w5.ownsRow V.heap.size 2 1 (.slice (some ⟨g, 0, none⟩) (joN x n y m) D) (joN x n y m) ((joL x n y m).map (Value.int .i64)) from hown)
  have hNm := joN_le x n y m
  have hz5 := HB5.out.size
  have HR5 := hide (blk_below HB5.out (by omega) HRV.out)
  have HX5 := hide (blk_below HB5.out (by omega) HXV.out)
  have HY5 := hide (blk_below HB5.out (by omega) HYV.out)
  have HB05 := hide (HBV0.out.trans (HB5.out.mono HBV0.out.size))
  have HBw5 := hide (HBV.out.trans (HB5.out.mono HBV.out.size))
  have HW5 := hide (OW.of_owns HO5.out (fun j hj => joV_at j hj))
  clear hown hgrow HO4 HB3 HB4 HO5 HXV HYV HRV
  rw [show (Go.Lib.compact ((joZ x n y m).mergeSort fun a b => decide (a ≤ b))).length = joN x n y m from rfl]
  have HEJ := hide (each_join w.heap.size (w.heap.size + 1) A A' n c n' c' x x' B B' m d m' d' y y' (some ⟨g, 0, none⟩) (joN x n y m) D (joV x n y m) w5 (by omega) HX5.out HY5.out (HS.out.below HB05.out) (HS'.out.below HB05.out) (HT.out.below HB05.out) (HT'.out.below HB05.out) HV.out HV'.out HW5.out.sl)
  obtain ⟨N, hN⟩ : ∃ q, joN x n y m = q := ⟨_, rfl⟩
  rw [hN] at HEJ hNm HW5 ⊢
  have HNN := hide hN
  clear hN
  go_wp2_with fail
  refine HEJ.out.mono ?_
  rintro e w6 ⟨G', D', rfl, ho, hb⟩
  have hz6 := hb.size
  have HO6 := hide (show OW w6 w5.heap.size w6.heap.size G' N (fun j => .int .i64 (joR x x' n y y' m j)) from ho)
  have HW6 := hide (HW5.out.below hb)
  have HR6 := hide (blk_below hb (by omega) HR5.out)
  have HB6 := hide (HBw5.out.trans (hb.mono HBw5.out.size))
  clear ho hb HEJ HW5 HR5
  by_cases hq : Val (joV x n y m) (joR x x' n y y' m) N N
  · have HM := hide (show joP x x' n n' y y' m m' from ⟨HV.out, HV'.out, by rw [HNN.out]; exact hq⟩)
    have HD := hide (made_yes (some ⟨g, 0, none⟩) G' N D N D' (joV x n y m) (joR x x' n y y' m) w6 (by unfold maxLen; omega) (by unfold maxLen; omega) HW6.out.sl HO6.out.sl hq)
    clear hq
    go_wp2_with fail
    refine HD.out.mono ?_
    rintro e w7 ⟨rfl, hb⟩
    have hz7 := hb.size
    have HP7 := hide (HW6.out.below hb)
    have HO7 := hide (HO6.out.below hb)
    have HR7 := hide (blk_below hb (by omega) HR6.out)
    have HB7 := hide (HB6.out.trans (hb.mono HB6.out.size))
    clear hb
    have q0 := Joins.cell_of_block HR7.out 0
    have q1 := Joins.cell_of_block HR7.out 1
    simp at q0 q1
    have f0 := Joins.unfrozen_of_block HR7.out 0
    have f1 := Joins.unfrozen_of_block HR7.out 1
    (try simp at f0 f1)
    go_wp2
    have R := Joins.block_setCell (Joins.block_setCell HR7.out (i := 0) (.slice (some ⟨g, 0, none⟩) N D)) (i := 1) (.slice G' N D')
    have r0 := Joins.cell_of_block R 0
    have r1 := Joins.cell_of_block R 1
    simp at r0 r1
    have hNN := HNN.out
    subst hNN
    refine bodyPost_ret (v := .tuple #[.agg #[.slice (some ⟨g, 0, none⟩) (joN x n y m) D, .slice G' (joN x n y m) D'], .bool true]) (by simp [results, Try.results31, go_sem, r0, r1]) rfl (gavet_yes HM.out ?_ ?_)
    · exact ow2_of ((HP7.out.setCell (.inl (by simp; omega))).setCell (.inl (by simp; omega))) ((HO7.out.setCell (.inl (by simp; omega))).setCell (.inl (by simp; omega))) (by omega) (by omega) (by simp; omega) (by omega) (by simp; omega)
    · exact (HB7.out.setCell (by simp; omega) _).setCell (by simp; omega) _
  · have HM := hide (show ¬ joP x x' n n' y y' m m' from fun h => hq (by rw [← HNN.out]; exact h.2.2))
    have HD := hide (made_no (some ⟨g, 0, none⟩) G' N D N D' (joV x n y m) (joR x x' n y y' m) w6 (by unfold maxLen; omega) (by unfold maxLen; omega) HW6.out.sl HO6.out.sl hq)
    clear hq
    go_wp2_with fail
    refine HD.out.mono ?_
    rintro e w7 ⟨rfl, hb⟩
    have hz7 := hb.size
    have HR7 := hide (blk_below hb (by omega) HR6.out)
    have HB7 := hide (HB6.out.trans (hb.mono HB6.out.size))
    clear hb
    have q0 := Joins.cell_of_block HR7.out 0
    have q1 := Joins.cell_of_block HR7.out 1
    simp at q0 q1
    have f0 := Joins.unfrozen_of_block HR7.out 0
    have f1 := Joins.unfrozen_of_block HR7.out 1
    (try simp at f0 f1)
    go_wp2
    have R := Joins.block_setCell (Joins.block_setCell HR7.out (i := 0) (.slice none 0 0)) (i := 1) (.slice none 0 0)
    have r0 := Joins.cell_of_block R 0
    have r1 := Joins.cell_of_block R 1
    simp at r0 r1
    refine bodyPost_ret (v := .tuple #[.agg #[.slice none 0 0, .slice none 0 0], .bool false]) (by simp [results, Try.results31, go_sem, r0, r1]) rfl (gavet_no HM.out ?_)
    exact (HB7.out.setCell (by simp; omega) _).setCell (by simp; omega) _
end Go.Proofs.Ytpbbedelapnnnaa
